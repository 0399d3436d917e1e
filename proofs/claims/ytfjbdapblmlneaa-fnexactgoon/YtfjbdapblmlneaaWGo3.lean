import Derived.Test.YtfjbdapblmlneaaWGo2
import Derived.Laws.IdiomStrings

/-
  THE WALK over the program's (question).follow.
-/
namespace Go.Proofs.Ytfjbdapblmlneaa
open Go.RowKit

theorem range_new (w : World) (c : Array Value) (t : TypeId) : (w.alloc (.cells c t)).rangeAt w.heap.size 0 c.toList := fun j v hv => by
  rw [Nat.zero_add, World.cell?_alloc_mark]
  simpa using hv

def GoneD.none : GoneD := ⟨1, false, 0, ⟨#[]⟩⟩
def belowOf (s : StepD) (i : Nat) : ByteArray := (⟨#[98, 101, 108, 111, 119, 32]⟩ : ByteArray) ++ s.asks.getD i ByteArray.empty

/-- The answers fit the step. -/
def AnsOk (s : StepD) (ans : List AnswerD) : Prop := ans.length = s.asks.length ∧ ¬ ∃ i, i < ans.length ∧ IsLong (ans.getD i AnswerD.zero)

/-- What follows a step without End. -/
def Followed (s : StepD) (ans : List AnswerD) (g : GoneD) : Prop :=
  (¬ AnsOk s ans ∧ g = GoneD.none) ∨
  (AnsOk s ans ∧ ((∃ i, i < ans.length ∧ IsFail (ans.getD i AnswerD.zero) ∧ NoneTo ans IsFail i ∧ ((s.fall = -1 ∧ g = ⟨0, true, 0, belowOf s i⟩) ∨ (s.fall ≠ -1 ∧ g = ⟨0, false, s.fall, ⟨#[]⟩⟩))) ∨
    (NoneTo ans IsFail ans.length ∧ ∃ r, Chosen s ans r ∧ g = ⟨0, false, r, ⟨#[]⟩⟩)))

theorem Followed.unique {s : StepD} {ans : List AnswerD} {g g' : GoneD} (h : Followed s ans g) (h' : Followed s ans g') : g = g' := by
  rcases h with ⟨h0, rfl⟩ | ⟨h0, ⟨i, hi, hp, hn, ⟨f1, rfl⟩ | ⟨f1, rfl⟩⟩ | ⟨hn, r, hr, rfl⟩⟩ <;> rcases h' with ⟨g0, rfl⟩ | ⟨g0, ⟨j, hj, gp, gn, ⟨e1, rfl⟩ | ⟨e1, rfl⟩⟩ | ⟨gn, q, gq, rfl⟩⟩
  all_goals first | rfl | exact absurd g0 h0 | exact absurd h0 g0 | exact absurd e1 f1 | exact absurd f1 e1 | exact absurd hp (gn i hi) | exact absurd gp (hn j hj) | skip
  · rcases Nat.lt_trichotomy i j with h | rfl | h
    · exact absurd hp (gn i h)
    · rfl
    · exact absurd gp (hn j h)
  · rw [hr.unique gq]

theorem Try.sizeGone : (Try.prog.info? 36).map (·.size) = some 4 := by kernel_rfl

set_option maxRecDepth 100000 in
set_option maxHeartbeats 1600000 in
theorem qfollow_any (w : World) (s : StepD) (aa ac a : Option Addr) (ca cc cap : Nat) (ans : List AnswerD) (hs : s.Fits) (hA : Strs w aa s.asks) (hC : Cases w ac s.cases) (hl : ans.length ≤ maxLen) (hal : ∀ c ∈ ans, c.text.size ≤ maxLen) (hS : Answers w a ans)
    (hon : s.asks.length ≠ 0 → 0 ≤ s.on ∧ s.on < s.asks.length) (h20 : ∀ i, i < s.asks.length → (s.asks.getD i ByteArray.empty).size ≤ 20) :
    Calls Try.prog 68 #[.agg #[.slice aa s.asks.length ca, .int .i64 s.on, .slice ac s.cases.length cc, .int .i64 s.els, .int .i64 s.fall, .bool s.fin, .bool s.bad, .string s.give], .slice a ans.length cap] w fun e w' => (∃ g, e = .returned (.agg g.cells.toArray) ∧ Followed s ans g) ∧ Kept w w' := by
  have hl' := hl
  have hl2 := hs.asks
  unfold maxLen at hl' hl2
  have k0 : Kept w ((w.alloc (.cells #[.slice aa s.asks.length ca, .int .i64 s.on, .slice ac s.cases.length cc, .int .i64 s.els, .int .i64 s.fall, .bool s.fin, .bool s.bad, .string s.give] 118)).alloc (.cells #[.int .i64 0, .bool false, .int .i64 0, .string ⟨#[]⟩] 36)) := ((Kept.refl _).alloc _).alloc _
  cases a1 : ((ans.length : Int) != (s.asks.length : Int))
  · have hlen : ans.length = s.asks.length := by simp at a1; omega
    have HLEN := hide hlen
    clear hlen
    go_enter Try.func68, Try.ntmps68
    go_wp2_with fail
    refine (containsLong _ a cap ans hl hal (hS.kept k0)).mono ?_
    rintro e w1 ⟨hsay, k1⟩
    have K1 := k0.trans k1
    have hrow1 : Row w1 (w.heap.size + 1) 4 := Row.kept (by have := Row.made (w.alloc (.cells #[.slice aa s.asks.length ca, .int .i64 s.on, .slice ac s.cases.length cc, .int .i64 s.els, .int .i64 s.fall, .bool s.fin, .bool s.bad, .string s.give] 118)) #[.int .i64 0, .bool false, .int .i64 0, .string ⟨#[]⟩] 36; simpa using this) k1
    have HROW := hide hrow1
    clear hrow1
    obtain ⟨hc1, hf1⟩ := k1.rules
    have hz1 := k1.size
    simp only [World.size_alloc] at hz1
    rcases hsay.cases with ⟨rfl, hyes⟩ | ⟨rfl, hno⟩
    · have HY := hide hyes
      clear hyes hsay k0 k1
      go_wp2
      have hR := World.rangeAt_setCells_same w1 (w.heap.size + 1) 0 GoneD.none.cells (HROW.out.there (o := 0) (m := 4) (Nat.le_refl _))
      exact bodyPost_ret_cell GoneD.none.cells _ Try.results68 rfl hR Try.underlying36 rfl Try.sizeGone rfl ⟨⟨_, rfl, Or.inl ⟨fun h => h.2 HY.out, rfl⟩⟩, Kept.setCells (g := w.heap.size + 1) (by omega) GoneD.none.cells 0 K1⟩
    · have HN := hide hno
      clear hno hsay k0 k1
      have z0 : w.heap.size < w1.heap.size := by omega
      have z1 : w.heap.size + 1 < w1.heap.size := by omega
      go_wp2_with fail
      refine (indexFail _ a cap ans hl hal (hS.kept K1)).mono ?_
      rintro e w2 ⟨⟨r, rfl, hr⟩, k2⟩
      have K2 := K1.trans k2
      have hrow2 := HROW.out.kept k2
      have HROW2 := hide hrow2
      obtain ⟨hc2, hf2⟩ := k2.rules
      have hz2 := k2.size
      have y0 : w.heap.size < w2.heap.size := by omega
      have y1 : w.heap.size + 1 < w2.heap.size := by omega
      clear hrow2 HROW k2 K1
      have HOK : Hid (AnsOk s ans) := ⟨HLEN.out, HN.out⟩
      rcases hr with ⟨i, hi, rfl, hp, hnone⟩ | ⟨rfl, hnone⟩
      · have HP := hide hp
        have HNO := hide hnone
        clear hp hnone
        cases b1 : (s.fall == -1)
        · go_wp2
          have hR := World.rangeAt_setCells_same w2 (w.heap.size + 1) 0 [.int .i64 0, .bool false, .int .i64 s.fall, .string ⟨#[]⟩] (HROW2.out.there (o := 0) (m := 4) (Nat.le_refl _))
          exact bodyPost_ret_cell [.int .i64 0, .bool false, .int .i64 s.fall, .string ⟨#[]⟩] _ Try.results68 rfl hR Try.underlying36 rfl Try.sizeGone rfl ⟨⟨⟨0, false, s.fall, ⟨#[]⟩⟩, rfl, Or.inr ⟨HOK.out, Or.inl ⟨i, hi, HP.out, HNO.out, Or.inr ⟨by simpa using b1, rfl⟩⟩⟩⟩, Kept.setCells (g := w.heap.size + 1) (by omega) [.int .i64 0, .bool false, .int .i64 s.fall, .string ⟨#[]⟩] 0 K2⟩
        · obtain ⟨ba, oa, rfl, hba, hca⟩ := hA.kept K2 i (by have := HLEN.out; omega)
          have hia : i < s.asks.length := by have := HLEN.out; omega
          obtain ⟨v, hv⟩ : ∃ v, v = s.asks.getD i ByteArray.empty := ⟨_, rfl⟩
          have hv20 := h20 i hia
          rw [← hv] at hca hv20
          have HV := hide hv
          clear hv
          go_wp2
          have hR := World.rangeAt_setCells_same w2 (w.heap.size + 1) 0 [.int .i64 0, .bool true, .int .i64 0, .string ((⟨#[98, 101, 108, 111, 119, 32]⟩ : ByteArray) ++ v)] (HROW2.out.there (o := 0) (m := 4) (Nat.le_refl _))
          exact bodyPost_ret_cell [.int .i64 0, .bool true, .int .i64 0, .string ((⟨#[98, 101, 108, 111, 119, 32]⟩ : ByteArray) ++ v)] _ Try.results68 rfl hR Try.underlying36 rfl Try.sizeGone rfl ⟨⟨⟨0, true, 0, _⟩, rfl, Or.inr ⟨HOK.out, Or.inl ⟨i, hi, HP.out, HNO.out, Or.inl ⟨by simpa using b1, by unfold belowOf; rw [← HV.out]⟩⟩⟩⟩, Kept.setCells (g := w.heap.size + 1) (by omega) [.int .i64 0, .bool true, .int .i64 0, .string ((⟨#[98, 101, 108, 111, 119, 32]⟩ : ByteArray) ++ v)] 0 K2⟩
      · have HNO := hide hnone
        clear hnone
        go_wp2_with fail
        refine (choose_any _ s aa ac a ca cc cap ans hs.cases (hC.kept K2) hl (hS.kept K2) (fun h => by have h1 := HLEN.out; have h2 := hon (by omega); omega)).mono ?_
        rintro e w3 ⟨⟨q, rfl, hq⟩, k3⟩
        have K3 := K2.trans k3
        have hrow3 := HROW2.out.kept k3
        have HROW3 := hide hrow3
        have HQ := hide hq
        obtain ⟨hc3, hf3⟩ := k3.rules
        have hz3 := k3.size
        clear hrow3 HROW2 k3 K2 hq
        go_wp2
        have hR := World.rangeAt_setCells_same w3 (w.heap.size + 1) 0 [.int .i64 0, .bool false, .int .i64 q, .string ⟨#[]⟩] (HROW3.out.there (o := 0) (m := 4) (Nat.le_refl _))
        exact bodyPost_ret_cell [.int .i64 0, .bool false, .int .i64 q, .string ⟨#[]⟩] _ Try.results68 rfl hR Try.underlying36 rfl Try.sizeGone rfl ⟨⟨⟨0, false, q, ⟨#[]⟩⟩, rfl, Or.inr ⟨HOK.out, Or.inr ⟨HNO.out, q, HQ.out, rfl⟩⟩⟩, Kept.setCells (g := w.heap.size + 1) (by omega) [.int .i64 0, .bool false, .int .i64 q, .string ⟨#[]⟩] 0 K3⟩
  · go_enter Try.func68, Try.ntmps68
    go_wp2
    have hR := range_new (w.alloc (.cells #[.slice aa s.asks.length ca, .int .i64 s.on, .slice ac s.cases.length cc, .int .i64 s.els, .int .i64 s.fall, .bool s.fin, .bool s.bad, .string s.give] 118)) #[.int .i64 1, .bool false, .int .i64 0, .string ⟨#[]⟩] 36
    rw [World.size_alloc] at hR
    exact bodyPost_ret_cell GoneD.none.cells _ Try.results68 rfl hR Try.underlying36 rfl Try.sizeGone rfl ⟨⟨_, rfl, Or.inl ⟨fun h => by simp at a1; exact a1 (by have := h.1; omega), rfl⟩⟩, ((Kept.refl _).alloc _).alloc _⟩

end Go.Proofs.Ytfjbdapblmlneaa
