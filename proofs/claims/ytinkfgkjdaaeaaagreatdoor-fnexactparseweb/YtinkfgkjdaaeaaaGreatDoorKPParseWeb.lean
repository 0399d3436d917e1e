import Derived.Test.YtinkfgkjdaaeaaaGreatDoorRows
import Derived.Test.YtinkfgkjdaaeaaaGreatDoorCards
import Derived.Test.YtinkfgkjdaaeaaaGreatDoorTie
import Derived.Test.YtinkfgkjdaaeaaaGreatDoorKLParseWeb
import Derived.Test.YtinkfgkjdaaeaaaGreatDoorKPLaid
import Derived.ProofKit
import Derived.OpenShut
import Derived.ChangeMaps5
import Derived.ChangeOld
import Derived.Below
import Derived.RowKitTokens
import Derived.Lay
import Derived.LaidHandle
import Derived.Lib.SmallJoins
import Derived.Stop.Joined
import Derived.SevenTiedAt

namespace Go.Proofs.YtinkfgkjdaaeaaaGreatDoor
open Go.ChangeShapes Go.WideShapes Go.ChangeAt Go.RowKit Go.Joins Go.ChangeMaps

theorem Tryz.ownV : ownKnob Tryz.prog.godebug = none := by kernel_rfl

theorem returns_and_shaped {H : Type} {enc : TypeId × Value → H} {C : Checked} {os : Os} {f : FuncId} {fn : Func} {s : ChangeSpec} {apart fresh handsOn again : Bool} {X : World → Prop}
    (hX : ∀ (w w' : World), w.heap = w'.heap → X w → X w') (own : ownKnob C.prog.godebug = none) (started : os.Started) (noInit : C.prog.inits.idxOf? f = none) (hfn : C.prog.funcs[f]? = some fn)
    (witness : ∃ (w : World) (tape : Tape) (i : Input), w.os = os ∧ (w.forCall tape i).Shaped C.prog ∧ i.vars = [] ∧ Input.okWide C.prog (w.forCall tape i) .any w.heap.size f i ∧
      ((s.pre enc C.prog fn [] apart (w.forCall tape i).memory i.args ∧ X (w.forCall tape i).memory) ∧ sizedMet enc C.prog fn (OpenSpec.ofChange s) apart (w.forCall tape i).memory i.args) ∧ Assume.holds {} C.prog (lone (Frame.enter C.prog f i.args .normal) [] (w.forCall tape i)))
    (contract : ∀ (W : World) (base : Nat) (args : Array Value) (ds gs : List (DataW H)) (before : List MemPlace),
      (∀ (j : Nat) t v, fn.params[j]? = some t → args[j]? = some v → Value.okWide C.prog W .any base t v) →
      DataW.Whole enc C.prog fn.params.toList s.vars apart W args.toList ds gs before → X W → W.ShapedOpen C.prog →
      Calls C.prog f args W fun e W' => ∃ v, e = .returned v ∧ s.post enc C.prog fn apart fresh handsOn again W args v W') :
    ReturnsInHanded {} C os f .any (fun w args => (s.pre enc C.prog fn [] apart w args ∧ X w) ∧ sizedMet enc C.prog fn (OpenSpec.ofChange s) apart w args) (s.post enc C.prog fn apart fresh handsOn again) := by
  refine returnsInHanded_of_calls own started noInit witness ?_
  intro w tape i _ hsh _ hok hpre _
  obtain ⟨_, _, _, fn', hfn', _, _, _, _, hval⟩ := hok
  obtain rfl : fn' = fn := Option.some.inj (hfn'.symm.trans hfn)
  obtain ⟨⟨⟨ds, gs, before, hw, _⟩, hx⟩, _⟩ := hpre
  refine (contract (w.forCall tape i) w.heap.size i.args ds gs before hval (DataW.Whole.of_heap (w' := w.forCall tape i) (by rfl) hw) (hX _ _ (by rfl) hx) hsh).mono fun e W' ⟨v, he, hp⟩ => ?_
  subst he
  exact ChangeSpec.post_blind hp

theorem six_read {H : Type} (enc : TypeId × Value → H) {W : World} {a0 a1 a2 a3 a4 a5 : Addr} (h0 : W.var? Tryz.prog "loop.example/kilnweb/impl.errSize" = some #[.iface 211 (.pointer (some a0))]) (h1 : W.var? Tryz.prog "loop.example/kilnweb/impl.errLast" = some #[.iface 211 (.pointer (some a1))])
    (h2 : W.var? Tryz.prog "loop.example/kilnweb/impl.errOther" = some #[.iface 211 (.pointer (some a2))]) (h3 : W.var? Tryz.prog "loop.example/kilnweb/impl.errNumber" = some #[.iface 211 (.pointer (some a3))])
    (h4 : W.var? Tryz.prog "loop.example/kilnweb/impl.errQuotes" = some #[.iface 211 (.pointer (some a4))]) (h5 : W.var? Tryz.prog "loop.example/kilnweb/impl.errWords" = some #[.iface 211 (.pointer (some a5))]) (sp : Nat → Bool) :
    DataW.TrodVars enc Tryz.prog W sp Rows.fnExactParseWebSpec.vars [tok enc (.iface 211 (.pointer (some a0))), tok enc (.iface 211 (.pointer (some a1))), tok enc (.iface 211 (.pointer (some a2))), tok enc (.iface 211 (.pointer (some a3))), tok enc (.iface 211 (.pointer (some a4))), tok enc (.iface 211 (.pointer (some a5)))]
      [.cell 0 0, .cell 1 0, .cell 2 0, .cell 4 0, .cell 5 0, .cell 7 0] :=
  ⟨0, 35, _, 1, [], _, Tryz.gSiz, Tryz.tSiz, h0, trod_held (v := .iface 211 (.pointer (some a0))) Tryz.underlying35 trivial 0, ⟨1, 35, _, 1, [], _, Tryz.gLas, Tryz.tLas, h1, trod_held (v := .iface 211 (.pointer (some a1))) Tryz.underlying35 trivial 0, ⟨2, 35, _, 1, [], _, Tryz.gOth, Tryz.tOth, h2, trod_held (v := .iface 211 (.pointer (some a2))) Tryz.underlying35 trivial 0,
    ⟨4, 35, _, 1, [], _, Tryz.gNum, Tryz.tNum, h3, trod_held (v := .iface 211 (.pointer (some a3))) Tryz.underlying35 trivial 0, ⟨5, 35, _, 1, [], _, Tryz.gQuo, Tryz.tQuo, h4, trod_held (v := .iface 211 (.pointer (some a4))) Tryz.underlying35 trivial 0, ⟨7, 35, _, 1, [], [], Tryz.gWor, Tryz.tWor, h5, trod_held (v := .iface 211 (.pointer (some a5))) Tryz.underlying35 trivial 0, rfl, rfl⟩, rfl⟩, rfl⟩, rfl⟩, rfl⟩, rfl⟩

noncomputable def laidW (os : Os) : World := (World.doorLaid Tryz.prog 400 os).layVars Tryz.prog (laid3 ++ laid10)
set_option maxRecDepth 100000 in
theorem laidW_os (os : Os) : (laidW os).os = os := (World.layVars_os _ _ _).trans rfl
set_option maxRecDepth 100000 in
theorem laidW_met (os : Os) (args : Array Value) : laidMetH Tryz.prog Rows.fnExactParseWebRow.laid ((laidW os).forCall (fun _ _ => 0) ⟨#[], args, []⟩).memory := by
  refine laidMetH_of_parts3 (fuel := 8) ?_ (by kernel_rfl) (by kernel_rfl)
  rw [laid_rest]
  exact laidMet_layVars (w0 := World.doorLaid Tryz.prog 400 os) ((laid3 (H := Unit) ++ laid10).map (·.1)) [] (by kernel_rfl) (by kernel_rfl) (by kernel_rfl) LaidIn.none

set_option maxRecDepth 100000 in
theorem parseWebLifted (os : Os) (started : os.Started) (H : Type) (enc : TypeId × Value → H) :
    ReturnsInHanded {} Tryz.checked os 3 .any (fun w args => (Rows.fnExactParseWebSpec.pre enc Tryz.prog Tryz.f3 [] false w args ∧ laidMetH Tryz.prog Rows.fnExactParseWebRow.laid w) ∧ sizedMet enc Tryz.prog Tryz.f3 (OpenSpec.ofChange Rows.fnExactParseWebSpec) false w args)
      (Rows.fnExactParseWebSpec.post enc Tryz.prog Tryz.f3 false true false false) := by
  refine returns_and_shaped (C := Tryz.checked) (X := fun w => laidMetH Tryz.prog Rows.fnExactParseWebRow.laid w) (fun _ _ hh h => h.of_heap hh) Tryz.ownV started (by kernel_rfl) Tryz.func3
    (ChangeSpec.witness_shaped (enc := enc) (C := Tryz.checked) (os := os) (X := fun w _ => laidMetH Tryz.prog Rows.fnExactParseWebRow.laid w) false (laidW os) #[.string ⟨#[]⟩] 8 (laidW_os os) (World.shaped_of_ZipB (by kernel_rfl) (by kernel_rfl)) (by kernel_rfl) (by kernel_rfl) (by kernel_rfl) (laidW_met os _)) ?_
  intro W base args ds gs before hval0 hW hL hSh
  have hval : ∀ (j : Nat) t v, Tryz.f3.params[j]? = some t → args[j]? = some v → Value.okWide Tryz.prog W .any base t v := hval0
  have hW' := hW
  obtain ⟨p, q, hA0, hV, rfl, hfz, hnd⟩ := hW
  have hA : DataW.TrodAll enc Tryz.prog W 0 (fun _ => true) true Tryz.f3.params.toList args.toList ds p := hA0
  rw [Tryz.params3] at hA hval
  obtain ⟨v0, vs0, d0, ds0, p0, q0, hargs, rfl, rfl, h0, r0⟩ := trodAll_cons hA
  obtain ⟨rfl, rfl, rfl⟩ := trodAll_nil r0
  obtain rfl : args = #[v0] := by cases args; simp_all
  obtain ⟨src, rfl, rfl, rfl, ws⟩ := open_string Tryz.underlying9 (hval 0 9 v0 rfl rfl) h0
  obtain ⟨⟨po, hE⟩, hS6⟩ := env_of_laid hSh hL
  obtain ⟨⟨b0, g0⟩, ⟨b1, g1⟩, ⟨b2, g2⟩, ⟨b3, g3⟩, ⟨b4, g4⟩, ⟨b5, g5⟩⟩ := hS6
  obtain ⟨rfl, rfl⟩ := hV.unique (six_read enc g0 g1 g2 g3 g4 g5 _)
  clear hA0 hval0
  refine (lawParse W src ws hE).mono fun e W' ⟨he, bel⟩ => ?_
  subst he
  exact ⟨_, rfl, _, _, _, [], _, _, hW', trodAll_mk1 (shut_bool Tryz.underlying4 _), trodAll_cons_mk (shut_string Tryz.underlying9 ws) trodAll_mk0, six_read enc (var_kept g0 bel) (var_kept g1 bel) (var_kept g2 bel) (var_kept g3 bel) (var_kept g4 bel) (var_kept g5 bel) _, Below.frame bel _, fun h => by cases h⟩

theorem parseWebHolds : Rows.FnExactParseWebSaid :=
  OpenClaim.holds_of_wide 3 Tryz.f3 rfl rfl rfl rfl rfl rfl rfl ⟨rfl, rfl, rfl, rfl, rfl⟩ rfl rfl rfl rfl rfl (by kernel_rfl) Tryz.func3 (by kernel_rfl)
    (of_decide_eq_true (by kernel_rfl)) (by unfold Func.isWrapper; first | (rw [if_pos (by decide +kernel)]; kernel_rfl) | (rw [if_neg (by decide +kernel)]; exact ⟨rfl, rfl⟩))
    (fun os started H enc _ => parseWebLifted os started H enc)

theorem parseWebCardHolds : Rows.FnExactParseWebCardSaid :=
  Claim7.holds_tied_plain_at .later [] [.data, .data, .data, .data, .handle, .sentinel, .sentinel, .sentinel, .sentinel, .sentinel, .sentinel, .sentinel, .sentinel, .pinned] true Rows.fnExactParseWebCard.stood.harness Rows.fnExactParseWebCard.stood.looks
    parseWebHolds (fun _ h => by cases h) (by kernel_rfl) (fun _ h => by cases h) fnExactParseWeb_row_tie rfl ⟨rfl, rfl⟩ (by kernel_rfl) rfl
    (fun f fn hf hfn => by
      obtain rfl : f = 3 := Option.some.inj ((show Tryz.prog.funcNamed Rows.fnExactParseWebRow.func = some 3 by kernel_rfl).symm.trans hf) |>.symm
      obtain rfl : fn = Tryz.f3 := (Option.some.inj (Tryz.func3.symm.trans hfn)).symm
      exact ⟨by kernel_rfl, fun j t ht => by
        rw [Tryz.params3] at ht
        have hm : t ∈ [9] := by simpa using Array.mem_of_getElem? ht
        have hall : ([9].all fun u => !Tryz.prog.wantsStandIn u) = true := by kernel_rfl
        exact (show Tryz.prog.wantsStandIn t = false by simpa using List.all_eq_true.1 hall t hm)⟩)
    (by kernel_rfl)

end Go.Proofs.YtinkfgkjdaaeaaaGreatDoor
