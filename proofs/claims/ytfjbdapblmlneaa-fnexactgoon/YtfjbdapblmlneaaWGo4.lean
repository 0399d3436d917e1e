import Derived.Test.YtfjbdapblmlneaaWGo3

/-
  THE WALKS over the program's follow.
-/
namespace Go.Proofs.Ytfjbdapblmlneaa
open Go.RowKit

theorem ta_qq (vs : Array Value) (W : World) : (Instr.typeAssert (.iface 118 (.agg vs)) 77 118 true).run Try.prog W = .ok (.tuple #[.agg vs, .bool true]) W := by kernel_rfl
theorem ta_bq (vs : Array Value) (W : World) : (Instr.typeAssert (.iface 119 (.agg vs)) 77 118 true).run Try.prog W = .ok (.tuple #[.agg #[.slice none 0 0, .int .i64 0, .slice none 0 0, .int .i64 0, .int .i64 0, .bool false, .bool false, .string ⟨#[]⟩], .bool false]) W := by kernel_rfl
theorem ta_bg (vs : Array Value) (W : World) : (Instr.typeAssert (.iface 119 (.agg vs)) 77 120 true).run Try.prog W = .ok (.tuple #[.agg #[.slice none 0 0, .int .i64 0, .slice none 0 0, .int .i64 0, .int .i64 0, .bool false, .bool false, .string ⟨#[]⟩], .bool false]) W := by kernel_rfl
theorem ta_bb (vs : Array Value) (W : World) : (Instr.typeAssert (.iface 119 (.agg vs)) 77 119 true).run Try.prog W = .ok (.tuple #[.agg vs, .bool true]) W := by kernel_rfl
theorem ta_gq (vs : Array Value) (W : World) : (Instr.typeAssert (.iface 120 (.agg vs)) 77 118 true).run Try.prog W = .ok (.tuple #[.agg #[.slice none 0 0, .int .i64 0, .slice none 0 0, .int .i64 0, .int .i64 0, .bool false, .bool false, .string ⟨#[]⟩], .bool false]) W := by kernel_rfl
theorem ta_gg (vs : Array Value) (W : World) : (Instr.typeAssert (.iface 120 (.agg vs)) 77 120 true).run Try.prog W = .ok (.tuple #[.agg vs, .bool true]) W := by kernel_rfl
theorem ta_gb (vs : Array Value) (W : World) : (Instr.typeAssert (.iface 120 (.agg vs)) 77 119 true).run Try.prog W = .ok (.tuple #[.agg #[.slice none 0 0, .int .i64 0, .slice none 0 0, .int .i64 0, .int .i64 0, .bool false, .bool false, .string ⟨#[]⟩], .bool false]) W := by kernel_rfl

set_option maxRecDepth 100000 in
set_option maxHeartbeats 800000 in
theorem follow_bad (w : World) (vs : Array Value) (x : Value) :
    Calls Try.prog 43 #[.iface 119 (.agg vs), x] w fun e w' => e = .returned (.agg GoneD.none.cells.toArray) ∧ Kept w w' := by
  have t1 := ta_bq
  have t2 := ta_bg
  have t3 := ta_bb
  go_enter Try.func43, Try.ntmps43
  go_wp2
  have hR := range_new w #[.int .i64 1, .bool false, .int .i64 0, .string ⟨#[]⟩] 36
  exact bodyPost_ret_cell GoneD.none.cells _ Try.results43 rfl hR Try.underlying36 rfl Try.sizeGone rfl ⟨rfl, (Kept.refl _).alloc _⟩

set_option maxRecDepth 100000 in
set_option maxHeartbeats 800000 in
theorem follow_good (w : World) (vs : Array Value) (x : Value) :
    Calls Try.prog 43 #[.iface 120 (.agg vs), x] w fun e w' => e = .returned (.agg GoneD.none.cells.toArray) ∧ Kept w w' := by
  have t1 := ta_gq
  have t2 := ta_gg
  have t3 := ta_gb
  go_enter Try.func43, Try.ntmps43
  go_wp2
  have hR := range_new w #[.int .i64 1, .bool false, .int .i64 0, .string ⟨#[]⟩] 36
  exact bodyPost_ret_cell GoneD.none.cells _ Try.results43 rfl hR Try.underlying36 rfl Try.sizeGone rfl ⟨rfl, (Kept.refl _).alloc _⟩

set_option maxRecDepth 100000 in
set_option maxHeartbeats 800000 in
theorem follow_ask (w : World) (s : StepD) (hfin : s.fin = false) (aa ac a : Option Addr) (ca cc cap : Nat) (ans : List AnswerD) (hs : s.Fits) (hA : Strs w aa s.asks) (hC : Cases w ac s.cases) (hl : ans.length ≤ maxLen) (hal : ∀ c ∈ ans, c.text.size ≤ maxLen) (hS : Answers w a ans)
    (hon : s.asks.length ≠ 0 → 0 ≤ s.on ∧ s.on < s.asks.length) (h20 : ∀ i, i < s.asks.length → (s.asks.getD i ByteArray.empty).size ≤ 20) :
    Calls Try.prog 43 #[.iface 118 (.agg #[.slice aa s.asks.length ca, .int .i64 s.on, .slice ac s.cases.length cc, .int .i64 s.els, .int .i64 s.fall, .bool false, .bool s.bad, .string s.give]), .slice a ans.length cap] w fun e w' => (∃ g, e = .returned (.agg g.cells.toArray) ∧ Followed s ans g) ∧ Kept w w' := by
  have hq : ∀ W, Kept w W → Calls Try.prog 68 #[.agg #[.slice aa s.asks.length ca, .int .i64 s.on, .slice ac s.cases.length cc, .int .i64 s.els, .int .i64 s.fall, .bool false, .bool s.bad, .string s.give], .slice a ans.length cap] W fun e w' => (∃ g, e = .returned (.agg g.cells.toArray) ∧ Followed s ans g) ∧ Kept W w' := fun W hW => by
    have h := qfollow_any W s aa ac a ca cc cap ans hs (hA.kept hW) (hC.kept hW) hl hal (hS.kept hW) hon h20
    rw [hfin] at h
    exact h
  have HQ := hide hq
  clear hq hon h20
  have t1 := ta_qq
  go_enter Try.func43, Try.ntmps43
  go_wp2_with fail
  refine (unhide HQ _ (by repeat (first | apply Kept.alloc | exact Kept.refl _))).mono ?_
  rintro e w1 ⟨⟨g, rfl, hg⟩, k1⟩
  have hrow1 : Row w1 w.heap.size 4 := Row.kept (Row.alloc (by have := Row.made w #[.int .i64 0, .bool false, .int .i64 0, .string ⟨#[]⟩] 36; simpa using this) _) k1
  have K1 : Kept w w1 := Kept.trans (by repeat (first | apply Kept.alloc | exact Kept.refl _)) k1
  obtain ⟨c, o, t, x⟩ := g
  have HG := hide hg
  have HROW := hide hrow1
  clear hg hrow1
  obtain ⟨hc1, hf1⟩ := k1.rules
  have hz1 := k1.size
  simp only [World.size_alloc] at hz1
  clear k1
  have hcells : (GoneD.mk c o t x).cells.toArray = #[.int .i64 c, .bool o, .int .i64 t, .string x] := rfl
  rw [hcells]
  clear hcells
  go_wp2
  have hR := World.rangeAt_setCells_same w1 w.heap.size 0 (GoneD.mk c o t x).cells (HROW.out.there (o := 0) (m := 4) (Nat.le_refl _))
  exact bodyPost_ret_cell (GoneD.mk c o t x).cells _ Try.results43 rfl hR Try.underlying36 rfl Try.sizeGone rfl ⟨⟨_, rfl, HG.out⟩, Kept.setCells (g := w.heap.size) (by omega) (GoneD.mk c o t x).cells 0 K1⟩

end Go.Proofs.Ytfjbdapblmlneaa
