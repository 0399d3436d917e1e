import Derived.Test.YtinkfgkjdaaeaaaGreatDoorKJEnv
import Derived.Test.YtinkfgkjdaaeaaaGreatDoorKFLaid
import Derived.Lib.LaidTab
import Derived.LaidLaws
import Derived.LaidHandle
import Derived.Lay

namespace Go.Proofs.YtinkfgkjdaaeaaaGreatDoor
open Go.ChangeShapes Go.WideShapes Go.ChangeAt Go.RowKit

theorem laidVars_append {P : Program} {W : World} : ∀ (l r : List (String × DataW Unit)) (ps : List MemPlace), DataW.LaidVars P W (l ++ r) ps → ∃ p q, DataW.LaidVars P W l p ∧ DataW.LaidVars P W r q ∧ ps = p ++ q
  | [], _, ps, h => ⟨[], ps, rfl, h, rfl⟩
  | (n, d) :: l, r, ps, h => by
    obtain ⟨g, t, cs, fuel, p, q, h1, h2, h3, h4, h5, rfl⟩ := h
    obtain ⟨p', q', a, b, rfl⟩ := laidVars_append l r q h5
    exact ⟨_, q', ⟨g, t, cs, fuel, p, p', h1, h2, h3, h4, a, rfl⟩, b, by simp [List.append_assoc]⟩
def RowsOk (W : World) (ps : List MemPlace) : Prop := ∀ b off, MemPlace.cell b off ∈ ps → (∃ c t, W.heap[b]? = some (.cells c t (0, 0))) ∧ ∀ u v, W.cell? ⟨b, off, none⟩ = some (.iface u v) → Value.okWide Tryz.prog W .any 0 u v
theorem RowsOk.right {W : World} {p q : List MemPlace} (h : RowsOk W (p ++ q)) : RowsOk W q := fun b off hm => h b off (List.mem_append_right _ hm)

theorem Tryz.starE : "*" ++ "errors.errorString" = "*errors.errorString" := by decide
theorem Tryz.rowErr (u : TypeId) (h : Tryz.prog.typeName? 3 u = some "*errors.errorString") : u = 211 :=
  typeName_ptr_named (nm := "errors.errorString") (by rw [Tryz.starE]; kernel_rfl) (by kernel_rfl) (by decide) u (by rw [Tryz.starE]; exact h)
theorem Tryz.cellsErr : Tryz.prog.cellsOf 213 = 1 := by kernel_rfl
theorem Tryz.cellsStr : Tryz.prog.cellsOf 9 = 1 := by kernel_rfl

-- A listed variable that errors.New made.
set_option maxRecDepth 100000 in
theorem sent_open {W : World} {n : String} {text : List UInt8} {r : List (String × DataW Unit)} {ps : List MemPlace} {g : Nat} (h : DataW.LaidVars Tryz.prog W ((n, .iface "*errors.errorString" (.ptr (.agg [.lit (.string text)]))) :: r) ps) (hrows : RowsOk W ps) (hg : Tryz.prog.globalNamed n = some g) (ht : (Tryz.prog.globals[g]?).map (·.type) = some 35) :
    ∃ (a : Addr) (q : List MemPlace), ErrAt W g a ∧ W.var? Tryz.prog n = some #[.iface 211 (.pointer (some a))] ∧ DataW.LaidVars Tryz.prog W r q ∧ ps = [.cell g 0, .cell a.block a.off] ++ q := by
  obtain ⟨g0, t0, cs0, f0, p0, q0, hg0, ht0, hv0, hd0, hq, rfl⟩ := h
  obtain rfl := Option.some.inj (hg.symm.trans hg0)
  obtain rfl := Option.some.inj (ht.symm.trans ht0)
  obtain ⟨l0⟩ := cs0
  have ok0 : ∀ u v, l0 = [.iface u v] → Value.okWide Tryz.prog W .any 0 u v := fun u v e => by
    subst e
    exact (hrows g 0 (by simp [MemPlace.row])).2 u v (by simpa using World.var?_cell hg0 hv0 0)
  obtain ⟨a0, s0, rfl, hc0, hs0, hz0, rfl⟩ := errorString_of_trod Tryz.underlying35 Tryz.rowErr Tryz.underlying211 Tryz.underlying213 rfl rfl Tryz.underlying9 Tryz.cellsErr Tryz.cellsStr hd0 ok0
  obtain ⟨c0, t1, hb0⟩ := (hrows a0.block a0.off (by simp [MemPlace.row])).1
  have hcell : W.cell? ⟨g, 0, none⟩ = some (.iface 211 (.pointer (some a0))) := by simpa using World.var?_cell hg0 hv0 0
  exact ⟨a0, q0, ⟨World.block_lt_of_cell? _ _ hcell, hcell, c0, t1, hb0⟩, hv0, hq, by simp [MemPlace.row]⟩

set_option maxRecDepth 100000 in
def laid10 : List (String × DataW Unit) := [("unicode/utf8.acceptRanges", Rows.laid_unicode_utf8_acceptRanges), ("strconv.ErrRange", Rows.laid_strconv_ErrRange), ("strconv.ErrSyntax", Rows.laid_strconv_ErrSyntax), ("loop.example/kilnweb/impl.errSize", Rows.laid_loop_example_kilnweb_impl_errSize), ("loop.example/kilnweb/impl.errLast", Rows.laid_loop_example_kilnweb_impl_errLast), ("loop.example/kilnweb/impl.errOther", Rows.laid_loop_example_kilnweb_impl_errOther), ("loop.example/kilnweb/impl.errWords", Rows.laid_loop_example_kilnweb_impl_errWords), ("loop.example/kilnweb/impl.errNumber", Rows.laid_loop_example_kilnweb_impl_errNumber), ("loop.example/kilnweb/impl.errQuotes", Rows.laid_loop_example_kilnweb_impl_errQuotes), ("unicode/utf8.first", Rows.laid_unicode_utf8_first)]
set_option maxRecDepth 100000 in
theorem laid_split : Rows.fnExactParseWebRow.laid.filter (fun x => x.2.handleName?.isSome) = [("errors.errorType", Rows.laid_errors_errorType)] := by kernel_rfl
set_option maxRecDepth 100000 in
theorem laid_rest : Rows.fnExactParseWebRow.laid.filter (fun x => x.2.handleName?.isNone) = laid3 ++ laid10 := by kernel_rfl
set_option maxRecDepth 100000 in
theorem laid_parts {W : World} (h : laidMetH Tryz.prog Rows.fnExactParseWebRow.laid W) : laidMet Tryz.prog (laid3 ++ laid10) W ∧ handlesMet Tryz.prog [("errors.errorType", Rows.laid_errors_errorType)] W := by
  unfold laidMetH at h
  rw [laid_split, laid_rest] at h
  exact h

theorem Tryz.gPowL : Tryz.prog.globalNamed "internal/strconv.uint64pow10" = some 12 := by kernel_rfl
theorem Tryz.tPowL : (Tryz.prog.globals[12]?).map (·.type) = some 215 := by kernel_rfl
theorem Tryz.cPowL : Tryz.prog.cellsOf 215 = 20 := by kernel_rfl
theorem Tryz.cU64L : Tryz.prog.cellsOf 155 = 1 := by kernel_rfl
set_option maxRecDepth 100000 in
theorem pow_of_laidL {W : World} (h : laidMetH Tryz.prog laid3 W) : PowOk W := by
  rw [MakeChecks.laidMetH_plain _ _ _ (by kernel_rfl)] at h
  obtain ⟨ps, ⟨g0, t0, cs0, f0, p0, q0, hg0, ht0, hv0, hd0, ⟨g1, t1, cs1, f1, p1, q1, hg1, ht1, hv1, hd1, ⟨g2, t2, cs2, f2, p2, q2, hg2, ht2, hv2, hd2, _, _⟩, _⟩, _⟩, _, _⟩ := h
  obtain rfl := Option.some.inj (Tryz.gPowL.symm.trans hg2)
  obtain rfl := Option.some.inj (Tryz.tPowL.symm.trans ht2)
  have hd3 := hd2
  rw [show (Rows.laid_internal_strconv_uint64pow10 : DataW Unit) = Lib.tabData .u64 Lib.pow10Tab from rfl] at hd3
  unfold PowOk Lib.TabIs
  rw [hv2, ← Lib.cells_of_tab Tryz.underlying215 Tryz.underlying155 Tryz.cU64L Tryz.cPowL hd3]

theorem Tryz.gEt : Tryz.prog.globalNamed "errors.errorType" = some 3 := by kernel_rfl
theorem Tryz.rtE : (Tryz.prog.cutTypes.find? (·.1 == "internal/reflectlite.rtype")).map (·.2) = some 138 := by kernel_rfl
theorem Tryz.oneRowE : ((List.range Tryz.prog.types.size).filter fun t => Tryz.prog.rowNamed t [101, 114, 114, 111, 114]) = [35] := by kernel_rfl
theorem Tryz.handleE : typeHandle Tryz.prog 35 = .pointer (some ⟨15, 35, none⟩) := by kernel_rfl
theorem handle_of_laid {W : World} (h : handlesMet Tryz.prog [("errors.errorType", Rows.laid_errors_errorType)] W) : W.cell? ⟨3, 0, none⟩ = some (.iface 138 (.agg #[.pointer (some ⟨15, 35, none⟩)])) := by
  obtain ⟨name, u, ty, e1, e2, e3, e4, e5⟩ := h _ (List.mem_singleton.2 rfl)
  have en : name = [101, 114, 114, 111, 114] := (Option.some.inj e1).symm
  subst en
  obtain rfl := Option.some.inj (Tryz.rtE.symm.trans e2)
  have hm : ty ∈ (List.range Tryz.prog.types.size).filter fun t => Tryz.prog.rowNamed t [101, 114, 114, 111, 114] := List.mem_filter.2 ⟨List.mem_range.2 e3, e4⟩
  rw [Tryz.oneRowE] at hm
  obtain rfl := List.mem_singleton.1 hm
  rw [Tryz.handleE] at e5
  simpa using World.var?_cell Tryz.gEt e5 0

theorem Tryz.gRng : Tryz.prog.globalNamed "strconv.ErrRange" = some 11 := by kernel_rfl
theorem Tryz.tRng : (Tryz.prog.globals[11]?).map (·.type) = some 35 := by kernel_rfl
theorem Tryz.gSyn : Tryz.prog.globalNamed "strconv.ErrSyntax" = some 10 := by kernel_rfl
theorem Tryz.tSyn : (Tryz.prog.globals[10]?).map (·.type) = some 35 := by kernel_rfl
theorem Tryz.gSiz : Tryz.prog.globalNamed "loop.example/kilnweb/impl.errSize" = some 0 := by kernel_rfl
theorem Tryz.tSiz : (Tryz.prog.globals[0]?).map (·.type) = some 35 := by kernel_rfl
theorem Tryz.gLas : Tryz.prog.globalNamed "loop.example/kilnweb/impl.errLast" = some 1 := by kernel_rfl
theorem Tryz.tLas : (Tryz.prog.globals[1]?).map (·.type) = some 35 := by kernel_rfl
theorem Tryz.gOth : Tryz.prog.globalNamed "loop.example/kilnweb/impl.errOther" = some 2 := by kernel_rfl
theorem Tryz.tOth : (Tryz.prog.globals[2]?).map (·.type) = some 35 := by kernel_rfl
theorem Tryz.gWor : Tryz.prog.globalNamed "loop.example/kilnweb/impl.errWords" = some 7 := by kernel_rfl
theorem Tryz.tWor : (Tryz.prog.globals[7]?).map (·.type) = some 35 := by kernel_rfl
theorem Tryz.gNum : Tryz.prog.globalNamed "loop.example/kilnweb/impl.errNumber" = some 4 := by kernel_rfl
theorem Tryz.tNum : (Tryz.prog.globals[4]?).map (·.type) = some 35 := by kernel_rfl
theorem Tryz.gQuo : Tryz.prog.globalNamed "loop.example/kilnweb/impl.errQuotes" = some 5 := by kernel_rfl
theorem Tryz.tQuo : (Tryz.prog.globals[5]?).map (·.type) = some 35 := by kernel_rfl

def VarE (W : World) (n : String) : Prop := ∃ a, W.var? Tryz.prog n = some #[.iface 211 (.pointer (some a))]
structure Six (W : World) : Prop where
  siz : VarE W "loop.example/kilnweb/impl.errSize"
  las : VarE W "loop.example/kilnweb/impl.errLast"
  oth : VarE W "loop.example/kilnweb/impl.errOther"
  num : VarE W "loop.example/kilnweb/impl.errNumber"
  quo : VarE W "loop.example/kilnweb/impl.errQuotes"
  wor : VarE W "loop.example/kilnweb/impl.errWords"

set_option maxRecDepth 100000 in
theorem env_of_laid {W : World} (hs : W.ShapedOpen Tryz.prog) (h : laidMetH Tryz.prog Rows.fnExactParseWebRow.laid W) : (∃ po, Env po W) ∧ Six W := by
  obtain ⟨⟨ps, hL, hnd, hrows⟩, hH⟩ := laid_parts h
  obtain ⟨p, q, hA, hB, rfl⟩ := laidVars_append _ _ _ hL
  have h3 : laidMetH Tryz.prog laid3 W := by
    rw [MakeChecks.laidMetH_plain _ _ _ (by kernel_rfl)]
    exact ⟨p, hA, (List.nodup_append.1 hnd).1, fun b off hm => hrows b off (List.mem_append_left _ hm)⟩
  have r0 : RowsOk W q := RowsOk.right (p := p) hrows
  have n0 : q.Nodup := (List.nodup_append.1 hnd).2.1
  obtain ⟨_, _, _, _, p1, q1, _, _, _, _, hC, rfl⟩ := hB
  have r1 := r0.right
  have n1 : q1.Nodup := (List.nodup_append.1 n0).2.1
  obtain ⟨a2, q2, e2, v2, h2, rfl⟩ := sent_open hC r1 Tryz.gRng Tryz.tRng
  obtain ⟨a3, q3, e3, v3, h3', rfl⟩ := sent_open h2 r1.right Tryz.gSyn Tryz.tSyn
  obtain ⟨a4, q4, e4, v4, h4, rfl⟩ := sent_open h3' r1.right.right Tryz.gSiz Tryz.tSiz
  obtain ⟨a5, q5, e5, v5, h5, rfl⟩ := sent_open h4 r1.right.right.right Tryz.gLas Tryz.tLas
  obtain ⟨a6, q6, e6, v6, h6, rfl⟩ := sent_open h5 r1.right.right.right.right Tryz.gOth Tryz.tOth
  obtain ⟨a7, q7, e7, v7, h7, rfl⟩ := sent_open h6 r1.right.right.right.right.right Tryz.gWor Tryz.tWor
  obtain ⟨a8, q8, e8, v8, h8, rfl⟩ := sent_open h7 r1.right.right.right.right.right.right Tryz.gNum Tryz.tNum
  obtain ⟨a9, q9, e9, v9, h9, rfl⟩ := sent_open h8 r1.right.right.right.right.right.right.right Tryz.gQuo Tryz.tQuo
  have n6 := (List.nodup_append.1 (List.nodup_append.1 (List.nodup_append.1 (List.nodup_append.1 n1).2.1).2.1).2.1).2.1
  have hn := (List.nodup_append.1 n6).2.2 (.cell a6.block a6.off) (by simp)
  have hx := handle_of_laid hH
  have hm := Tryz.laysM145.s1_3 W hs
  obtain ⟨m, hm⟩ := hm
  refine ⟨⟨a6, tab_of_laid h3, pow_of_laidL h3, ⟨World.block_lt_of_cell? _ _ hm, m, hm⟩, ⟨World.block_lt_of_cell? _ _ hx, hx⟩, ⟨a3, e3⟩, ⟨a2, e2⟩, ⟨a4, e4⟩, ⟨a5, e5⟩, e6, ⟨a8, e8, ?_⟩, ⟨a9, e9, ?_⟩, ⟨a7, e7, ?_⟩⟩, ⟨_, v4⟩, ⟨_, v5⟩, ⟨_, v6⟩, ⟨_, v8⟩, ⟨_, v9⟩, ⟨_, v7⟩⟩
  · rintro rfl
    exact hn (.cell a8.block a8.off) (by simp) rfl
  · rintro rfl
    exact hn (.cell a9.block a9.off) (by simp) rfl
  · rintro rfl
    exact hn (.cell a7.block a7.off) (by simp) rfl

theorem var_kept {W W' : World} {n : String} {cs : Array Value} (h : W.var? Tryz.prog n = some cs) (k : Kept W W') : W'.var? Tryz.prog n = some cs := by
  unfold World.var? at h ⊢
  cases hg : Tryz.prog.globalNamed n with
  | none => simp [hg] at h
  | some g =>
    simp only [hg, Option.bind_some] at h ⊢
    have hlt : g < W.heap.size := by
      rcases Nat.lt_or_ge g W.heap.size with h' | h'
      · exact h'
      · simp [Array.getElem?_eq_none h'] at h
    rw [k.block g hlt]
    exact h
end Go.Proofs.YtinkfgkjdaaeaaaGreatDoor
