import Derived.Test.YtinkfgkjdaaeaaaGreatDoorKJManyN
import Derived.Test.YtinkfgkjdaaeaaaGreatDoorKQLine
import Derived.Test.YtinkfgkjdaaeaaaGreatDoorKVFit8
import Derived.Test.YtinkfgkjdaaeaaaGreatDoorKOCopy4
import Derived.Test.YtinkfgkjdaaeaaaGreatDoorKWCheck5
import Derived.Test.YtinkfgkjdaaeaaaGreatDoorKIRead
import Derived.Test.YtinkfgkjdaaeaaaGreatDoorKQSpecP
import Derived.Test.YtinkfgkjdaaeaaaGreatDoorKWLaw

namespace Go.Proofs.YtinkfgkjdaaeaaaGreatDoor
open Go.RowKit

theorem Tryz.sizeWebJ : (Tryz.prog.info? 24).map (·.size) = some 1 := by kernel_rfl

def WebEnd (L : List (List UInt8)) (_w w' : World) (e : Ending) : Prop :=
  ∃ (va : Option Addr) (vn vc : Nat) (err : Value), e = .returned (.tuple #[.agg #[.slice va vn vc], err]) ∧
    ((∃ ns, WebR L (some ns) ∧ err = .nilIface ∧ vn = ns.length ∧ Nodes w' va ns ∧ (∀ d ∈ ns, d.Shorts 100000 100001) ∧ ns.length ≤ 100001) ∨ (WebR L none ∧ ∃ t p, err = .iface t p))

set_option maxRecDepth 100000 in
set_option maxHeartbeats 3200000 in
theorem web_any (w0 w : World) (rb lb cap : Nat) (L : List (List UInt8)) (hR : Rdr w rb lb cap L 0) {po : Addr} (h0 : Env po w0) (k0 : Kept w0 w) (hrb : w0.heap.size ≤ rb) :
    Calls Tryz.prog 13 #[.pointer (some ⟨rb, 0, none⟩)] w fun e w' => WebEnd L w w' e ∧ KeptBut rb (rb + 1) w w' := by
  have hrl := hR.row.lt
  have hlbl := hR.lbl
  have hlen := hR.len
  have HEa : Hid (∀ l ∈ L, l.length ≤ 100000) := hR.each
  obtain ⟨W0, hW0⟩ : ∃ W0, W0 = w.alloc (.cells #[.slice none 0 0] 24) := ⟨_, rfl⟩
  have kA : Hid (Kept w W0) := by rw [hW0]; exact (Kept.refl w).alloc _
  have HV0 : Hid (RowT W0 w.heap.size 24 1) := by rw [hW0]; exact RowT.made w _ _
  have HR0 := hide (hR.kept kA.out)
  have H0 := hide h0
  have K0 := hide (k0.trans kA.out)
  clear hR h0 k0
  go_enter Tryz.func13, Tryz.ntmps13
  go_wp2_with fail
  rw [← hW0]
  clear hW0
  refine (manyN_any w0 W0 rb lb cap L 0 HR0.out (Nat.zero_le _) H0.out K0.out hrb).mono ?_
  intro e w1 hend
  obtain ⟨v, err, a1, rfl, ⟨va, vn, vc, rfl⟩, hR1, kb1, hcase⟩ := hend
  have HR1 := hide hR1
  have HB1 := hide (KeptBut.from kA.out kb1)
  have HV1 := hide (kb1.rowT HV0.out (by omega))
  have HK1 := hide (kb1.kept K0.out hrb)
  have HE1 := hide (kb1.env H0.out K0.out hrb)
  have c0 := hR1.c0
  have c1 := hR1.c1
  have ho := HE1.out.oth.2.1
  obtain ⟨⟨_, x0⟩, g0⟩ := HV1.out.row.at (i := 0) (by omega)
  have hvr : w.heap.size ≠ rb := by omega
  have hvl := HV1.out.lt
  clear hR1 kb1 HR0 HV0 K0 kA
  have HFin : Hid (∀ W : World, KeptBut rb (rb + 1) w1 W → RowT W w.heap.size 24 1 → (W.setCell ⟨w.heap.size, 0, none⟩ (.slice va vn vc)).rangeAt w.heap.size 0 [.slice va vn vc] ∧ KeptBut rb (rb + 1) w (W.setCell ⟨w.heap.size, 0, none⟩ (.slice va vn vc))) := fun W kb hr =>
    ⟨World.rangeAt_setCells_same W w.heap.size 0 [.slice va vn vc] (hr.row.there (o := 0) (m := 1) (Nat.le_refl _)), (HB1.out.trans kb).below ((Below.refl _ _).setCell (p := ⟨w.heap.size, 0, none⟩) (Nat.le_refl _) _)⟩
  rcases hcase with ⟨xs, cells, hM, _, ha2, rfl, hO, hP, _⟩ | ⟨fb, line, u, hv, hM, rfl, hF, hno, hfb⟩
  · have HM := hide hM
    obtain ⟨na, nc, he, hN⟩ := PackedN.nodes hO hP
    simp only [Value.slice.injEq] at he
    obtain ⟨rfl, rfl, rfl⟩ := he
    obtain ⟨hfit, hlen2⟩ := nodes_all (n := 100000) (m := 100001) hM (fun l hl => HEa.out l (List.mem_of_mem_drop hl)) (by rw [List.length_drop]; omega)
    have HFit := hide hfit
    have hxl : xs.length ≤ 100001 := by rw [List.length_drop] at hlen2; omega
    have HN : Hid (∀ W : World, SameKind 24 w1 W → Nodes W va xs) := fun W hk => by
      obtain ⟨na', nc', he', hN'⟩ := PackedN.nodes (owns_kept hO hk (by decide)) (PackedN.same hP hk (by decide) (by decide) (by decide))
      simp only [Value.slice.injEq] at he'
      obtain ⟨rfl, _, rfl⟩ := he'
      exact hN'
    clear hM hO hP hN hfit hlen2
    by_cases hlt : (a1 : Int) < (L.length : Int)
    · have HW : Hid (WebR L none) := .inl ⟨xs, L.drop a1, by have := HM.out; rwa [List.drop_zero] at this, by rw [if_neg (by intro e; have := congrArg List.length e; rw [List.length_drop] at this; simp at this; omega)]⟩
      go_wp2
      go_region
      go_wp2
      go_region
      all_goals
        go_wp2
        obtain ⟨r1, r2⟩ := HFin.out w1 (.refl _ _ _) HV1.out
        refine bodyPost_ret_j2 [.slice va xs.length vc] _ (.iface 67 (.pointer (some ⟨w1.heap.size, 0, none⟩))) Tryz.results13 rfl ?_ Tryz.underlying24 rfl Tryz.sizeWebJ rfl rfl ⟨⟨va, xs.length, vc, _, rfl, .inr ⟨HW.out, _, _, rfl⟩⟩, ?_⟩
        · exact Kept.range (((Kept.refl _).alloc _).drew.drew) (by rw [size_setCell]; exact hvl) r1
        · exact (r2.alloc _).drew.drew
    · have HW : Hid (WebR L (some xs)) := .inl ⟨xs, L.drop a1, by have := HM.out; rwa [List.drop_zero] at this, by rw [if_pos (List.drop_eq_nil_of_le (by omega))]⟩
      go_wp2
      go_region
      go_wp2
      obtain ⟨r1, r2⟩ := HFin.out w1 (.refl _ _ _) HV1.out
      refine bodyPost_ret_j2 [.slice va xs.length vc] _ .nilIface Tryz.results13 rfl ?_ Tryz.underlying24 rfl Tryz.sizeWebJ rfl rfl ⟨⟨va, xs.length, vc, _, rfl, .inl ⟨xs, HW.out, rfl, rfl, ?_, HFit.out, hxl⟩⟩, ?_⟩
      · exact r1
      · exact HN.out _ (HV1.out.same (o := 0) (.slice va xs.length vc))
      · exact r2.drew
  · simp only [Value.slice.injEq] at hv
    obtain ⟨rfl, rfl, rfl⟩ := hv
    have HW : Hid (WebR L none) := .inr ⟨by have := hM; rwa [List.drop_zero] at this, rfl⟩
    clear hM hF hno
    go_wp2
    go_region
    go_wp2
    obtain ⟨r1, r2⟩ := HFin.out w1 (.refl _ _ _) HV1.out
    refine bodyPost_ret_j2 [.slice none 0 0] _ (.iface 67 (.pointer (some ⟨fb, 0, none⟩))) Tryz.results13 rfl ?_ Tryz.underlying24 rfl Tryz.sizeWebJ rfl rfl ⟨⟨none, 0, 0, _, rfl, .inr ⟨HW.out, _, _, rfl⟩⟩, ?_⟩
    · exact r1
    · exact r2.drew

def ParseR (src : List UInt8) (o : Option (List NodeD)) : Prop :=
  (∃ L ns, src.length ≤ 100000 ∧ cuts 10 src = L ++ [[]] ∧ WebR L (some ns) ∧ WebCode ns 0 ∧ o = some ns) ∨
  (o = none ∧ (100000 < src.length ∨ (¬ ∃ L, cuts 10 src = L ++ [[]]) ∨ ∃ L, cuts 10 src = L ++ [[]] ∧ (WebR L none ∨ ∃ ns c, WebR L (some ns) ∧ WebCode ns c ∧ c ≠ 0)))

def ParseEnd (src : List UInt8) (w w' : World) (e : Ending) : Prop :=
  Kept w w' ∧ ((∃ ns a, ParseR src (some ns) ∧ e = .returned (.tuple #[.agg #[.slice a ns.length ns.length], .bool true]) ∧ NodesIn w' w.heap.size w'.heap.size a ns) ∨ (ParseR src none ∧ e = .returned (.tuple #[.agg #[.slice none 0 0], .bool false])))

theorem small_valid {ns : List NodeD} (h : WebCode ns 0) : ns.length ≤ 60 ∧ ∀ d ∈ ns, d.Small := by
  have hW := webOk_of_code h
  refine ⟨hW.1, fun d hd => ?_⟩
  have hd' := webOkL_mem hW d hd
  have h1 := hd'.1.2.1
  have h2 := hd'.2.2.1.2
  simp only at h2
  refine ⟨by omega, by omega, fun s hs => ?_⟩
  obtain ⟨hS, hn⟩ := stepsOk_mem hd' hs
  by_cases hf : s.fin = true
  · obtain ⟨e1, e2, e3, e4, e5, e6⟩ := hS.1 hf
    exact ⟨by omega, fun x hx => by rw [List.eq_nil_of_length_eq_zero e1] at hx; simp at hx, by omega, fun c hc => by rw [List.eq_nil_of_length_eq_zero e3] at hc; simp at hc, by omega⟩
  · have hA := hS.2 (by simpa using hf)
    have a1 := hA.1.2.2.1
    have a2 := hA.1.2.2.2.2.1
    have a3 := hA.1.2.1
    exact ⟨by omega, fun x hx => by have := (namesOk_mem hA.1.2.2.2.1 hx).2.1; omega, by omega, fun c hc => by have := (casesOk_mem hA.2 hc).1; omega, by omega⟩

set_option maxRecDepth 100000 in
set_option maxHeartbeats 3200000 in
theorem implParse_any (w : World) (src : List UInt8) (hl : src.length ≤ 2000000) {po : Addr} (h0 : Env po w) :
    Calls Tryz.prog 5 #[.string (toB src)] w fun e w' => ParseEnd src w w' e := by
  obtain ⟨W0, hW0⟩ : ∃ W0, W0 = w.alloc (.cells #[.slice none 0 0] 24) := ⟨_, rfl⟩
  have kA : Hid (Kept w W0) := by rw [hW0]; exact (Kept.refl w).alloc _
  have HV0 : Hid (RowT W0 w.heap.size 24 1) := by rw [hW0]; exact RowT.made w _ _
  have H0 := hide h0
  clear h0
  go_enter Tryz.func5, Tryz.ntmps5
  go_wp2_with fail
  rw [← hW0]
  clear hW0
  refine (readerOf_any W0 src hl (H0.out.kept kA.out)).mono ?_
  rintro e w1 ⟨k1, hend⟩
  have HV1 := hide (HV0.out.kept k1)
  have HK1 := hide (kA.out.trans k1)
  have hz0 := kA.out.size
  have hvl := HV0.out.lt
  clear HV0
  rcases hend with ⟨t, p, rfl, hwhy⟩ | ⟨rb, lb, cap, L, rfl, hsz, hL, hR, hrb⟩
  · have HP : Hid (ParseR src none) := .inr ⟨rfl, by rcases hwhy with h | h; exact .inl h; exact .inr (.inl h)⟩
    obtain ⟨⟨_, x0⟩, g0⟩ := HV1.out.row.at (i := 0) (by omega)
    have HRg := hide (World.rangeAt_setCells_same w1 w.heap.size 0 [.slice none 0 0] (HV1.out.row.there (o := 0) (m := 1) (Nat.le_refl _)))
    have HKf := hide (Kept.setCells (Nat.le_refl _) [.slice none 0 0] 0 HK1.out)
    clear hwhy k1
    go_wp2
    exact bodyPost_ret_j2 [.slice none 0 0] _ (.bool false) Tryz.results5 rfl HRg.out Tryz.underlying24 rfl Tryz.sizeWebJ rfl rfl ⟨HKf.out, .inr ⟨HP.out, rfl⟩⟩
  · have HL := hide hL
    have hrw : w.heap.size ≤ rb := by omega
    clear hL k1
    go_wp2_with fail
    refine (web_any w w1 rb lb cap L hR H0.out HK1.out hrw).mono ?_
    rintro e w2 ⟨hend, kb2⟩
    obtain ⟨va, vn, vc, err, rfl, hcase⟩ := hend
    have HV2 := hide (kb2.rowT HV1.out (by omega))
    have HK2 := hide (kb2.kept HK1.out hrw)
    obtain ⟨W3, hW3⟩ : ∃ W3, W3 = w2.alloc (.cells #[.slice va vn vc] 24) := ⟨_, rfl⟩
    have kB : Hid (Kept w2 W3) := by rw [hW3]; exact (Kept.refl w2).alloc _
    have HV3 := hide (HV2.out.kept kB.out)
    have HK3 := hide (HK2.out.trans kB.out)
    have HL2 : Hid (w2.heap.size < W3.heap.size) := by show _ < _; rw [hW3]; simp
    have y0 : W3.cell? ⟨w2.heap.size, 0, none⟩ = some (.slice va vn vc) := by rw [hW3]; exact range_new w2 #[.slice va vn vc] 24 0 _ rfl
    clear hR kb2 HV1 HK1
    rcases hcase with ⟨ns, hW, rfl, rfl, hN, hfit, hlen⟩ | ⟨hW, t, p, rfl⟩
    · have HN3 := hide (hN.kept kB.out)
      have HFit := hide hfit
      have HW := hide hW
      clear hN hfit hW HV2 HK2 kB
      go_wp2_with fail
      rw [← hW3]
      clear hW3
      refine (implCheckWeb_any ascSaid W3 va vc ns (by unfold maxLen; omega) (fun d hd => (HFit.out d hd).fits (by omega) (by omega)) HN3.out).mono ?_
      rintro e w4 ⟨⟨c, rfl, hc⟩, k4⟩
      have HN4 := hide (HN3.out.kept k4)
      have HV4 := hide (HV3.out.kept k4)
      have HK4 := hide (HK3.out.trans k4)
      have y4 := (k4.cell (o := 0) HL2.out).trans y0
      have HL4 : Hid (w2.heap.size < w4.heap.size) := Nat.lt_of_lt_of_le HL2.out k4.size
      clear k4 y0 HN3 HV3 HK3 HL2
      by_cases hc0 : c = 0
      · subst hc0
        have HP : Hid (ParseR src (some ns)) := .inl ⟨L, ns, hsz, HL.out, HW.out, hc, rfl⟩
        obtain ⟨hs60, hsm⟩ := small_valid hc
        have HSm := hide hsm
        clear hc hsm
        go_wp2_with fail
        refine (listOf_any _ va ns.length vc).mono ?_
        rintro e w5 ⟨rfl, k5⟩
        go_wp2_with fail
        refine (webOf_in _ va vc ns (by omega) HSm.out (HN4.out.kept k5)).mono ?_
        rintro e w6 ⟨a6, rfl, hI, k6⟩
        have HV6 := hide (HV4.out.kept (k5.trans k6))
        have HK6 := hide ((HK4.out.trans k5).trans k6)
        have hvl4 : w.heap.size < w5.heap.size := (HV4.out.kept k5).lt
        have HI : Hid (NodesIn (w6.setCell ⟨w.heap.size, 0, none⟩ (.slice a6 ns.length ns.length)) w.heap.size (w6.setCell ⟨w.heap.size, 0, none⟩ (.slice a6 ns.length ns.length)).heap.size a6 ns) := by
          rw [size_setCell]
          refine NodesIn.mono (hI.same (w' := w6.setCell ⟨w.heap.size, 0, none⟩ (.slice a6 ns.length ns.length)) ?_) (by omega) (Nat.le_refl _)
          intro b h1 h2 hs
          exact Below.heap_setCell _ _ _ _ (fun e => by simp only at e; omega)
        have HRg := hide (World.rangeAt_setCells_same w6 w.heap.size 0 [.slice a6 ns.length ns.length] (HV6.out.row.there (o := 0) (m := 1) (Nat.le_refl _)))
        have HKf := hide (Kept.setCells (Nat.le_refl _) [.slice a6 ns.length ns.length] 0 HK6.out)
        obtain ⟨⟨_, x0⟩, g0⟩ := HV6.out.row.at (i := 0) (by omega)
        clear k5 k6 hI y4 HV4 HK4
        go_wp2
        exact bodyPost_ret_j2 [.slice a6 ns.length ns.length] _ (.bool true) Tryz.results5 rfl HRg.out Tryz.underlying24 rfl Tryz.sizeWebJ rfl rfl ⟨HKf.out, .inl ⟨ns, a6, HP.out, rfl, HI.out⟩⟩
      · have HP : Hid (ParseR src none) := .inr ⟨rfl, .inr (.inr ⟨L, HL.out, .inr ⟨ns, c, HW.out, hc, hc0⟩⟩)⟩
        have ec : (c != 0) = true := by simpa using hc0
        clear hc hc0
        have HRg := hide (World.rangeAt_setCells_same w4 w.heap.size 0 [.slice none 0 0] (HV4.out.row.there (o := 0) (m := 1) (Nat.le_refl _)))
        have HKf := hide (Kept.setCells (Nat.le_refl _) [.slice none 0 0] 0 HK4.out)
        obtain ⟨⟨_, x0⟩, g0⟩ := HV4.out.row.at (i := 0) (by omega)
        go_wp2
        exact bodyPost_ret_j2 [.slice none 0 0] _ (.bool false) Tryz.results5 rfl HRg.out Tryz.underlying24 rfl Tryz.sizeWebJ rfl rfl ⟨HKf.out, .inr ⟨HP.out, rfl⟩⟩
    · have HP : Hid (ParseR src none) := .inr ⟨rfl, .inr (.inr ⟨L, HL.out, .inl hW⟩)⟩
      clear hW HV2 HK2 kB
      go_upto_region 5 with fail
      rw [← hW3]
      clear hW3
      have HRg := hide (World.rangeAt_setCells_same W3 w.heap.size 0 [.slice none 0 0] (HV3.out.row.there (o := 0) (m := 1) (Nat.le_refl _)))
      have HKf := hide (Kept.setCells (Nat.le_refl _) [.slice none 0 0] 0 HK3.out)
      obtain ⟨⟨_, x0⟩, g0⟩ := HV3.out.row.at (i := 0) (by omega)
      go_wp2
      exact bodyPost_ret_j2 [.slice none 0 0] _ (.bool false) Tryz.results5 rfl HRg.out Tryz.underlying24 rfl Tryz.sizeWebJ rfl rfl ⟨HKf.out, .inr ⟨HP.out, rfl⟩⟩

end Go.Proofs.YtinkfgkjdaaeaaaGreatDoor

namespace Go.Proofs.YtinkfgkjdaaeaaaGreatDoor
open Go.RowKit

def SpecR (src : List UInt8) (o : Option (List NodeD)) : Prop :=
  (src.length ≤ 100000 ∧ WebCode (readL src) 0 ∧ formL (readL src) = src ∧ o = some (readL src)) ∨
  (o = none ∧ (100000 < src.length ∨ (∃ c, WebCode (readL src) c ∧ c ≠ 0) ∨ (WebCode (readL src) 0 ∧ formL (readL src) ≠ src)))

theorem parse_same {src : List UInt8} {o o' : Option (List NodeD)} (h : ParseR src o) (h' : SpecR src o') : o = o' := by
  rcases h with ⟨L, ns, hl, hL, hW, hc, rfl⟩ | ⟨rfl, hno⟩
  · have hok := webOk_of_code hc
    have hsrc := read_back hL hW hok
    have hrd : readL src = ns := by rw [hsrc]; exact readL_form hok
    have hfm : formL ns = src := by
      unfold formL
      rw [← hsrc, if_neg (by omega)]
    rcases h' with ⟨_, _, _, rfl⟩ | ⟨rfl, h1 | ⟨c, h1, h2⟩ | ⟨_, h1⟩⟩
    · rw [hrd]
    · omega
    · rw [hrd] at h1
      exact absurd (h1.unique hc) h2
    · rw [hrd] at h1
      exact absurd hfm h1
  · rcases h' with ⟨hl, hc, hf, rfl⟩ | ⟨rfl, _⟩
    · exfalso
      obtain ⟨ns, hns⟩ : ∃ ns, ns = readL src := ⟨_, rfl⟩
      rw [← hns] at hc hf
      have hok := webOk_of_code hc
      have hsrc : src = nodesL ns := by
        unfold formL at hf
        split at hf
        · next g =>
          subst hf
          have : ns = [] := by rw [hns]; rfl
          rw [this] at g
          simp [nodesL] at g
        · exact hf.symm
      rcases hno with h1 | h1 | ⟨L, hL, h1 | ⟨ns', c, h1, h2, h3⟩⟩
      · omega
      · exact h1 ⟨_, by rw [hsrc]; exact form_lines (webOkL_mem hok)⟩
      · have := read_forth hok (by rw [← hsrc]; exact hL) h1
        cases this
      · have := read_forth hok (by rw [← hsrc]; exact hL) h1
        cases this
        exact h3 (h2.unique hc)
    · rfl

end Go.Proofs.YtinkfgkjdaaeaaaGreatDoor

namespace Go.Proofs.YtinkfgkjdaaeaaaGreatDoor
open Go.RowKit

def SpecEnd (src : List UInt8) (w w' : World) (e : Ending) : Prop :=
  Kept w w' ∧ ((∃ a cap, SpecR src (some (readL src)) ∧ e = .returned (.tuple #[.agg #[.slice a (readL src).length cap], .bool true]) ∧ Nodes w' a (readL src)) ∨ (SpecR src none ∧ e = .returned (.tuple #[.agg #[.slice none 0 0], .bool false])))

theorem readL_short {src : List UInt8} (h : src.length ≤ 900000) : (readL src).length ≤ 900001 ∧ ∀ d ∈ readL src, d.Fits := by
  have := readL_fits h (cuts 10 src).length
  rw [List.take_length] at this
  exact ⟨this.1, fun d hd => (this.2 d hd).2⟩

set_option maxRecDepth 100000 in
set_option maxHeartbeats 3200000 in
theorem specParse_any (w : World) (src : List UInt8) (hl : src.length ≤ 2000000) :
    Calls Tryz.prog 4 #[.string (toB src)] w fun e w' => SpecEnd src w w' e := by
  obtain ⟨W0, hW0⟩ : ∃ W0, W0 = w.alloc (.cells #[.slice none 0 0] 24) := ⟨_, rfl⟩
  have kA : Hid (Kept w W0) := by rw [hW0]; exact (Kept.refl w).alloc _
  have HV0 : Hid (RowT W0 w.heap.size 24 1) := by rw [hW0]; exact RowT.made w _ _
  have hz : ((toB src).size : Int) = src.length := by rw [toB_size]
  have hno : ∀ W : World, Hid (Kept w W) → Hid (RowT W w.heap.size 24 1) → Hid ((W.setCell ⟨w.heap.size, 0, none⟩ (.slice none 0 0)).rangeAt w.heap.size 0 [.slice none 0 0] ∧ Kept w (W.setCell ⟨w.heap.size, 0, none⟩ (.slice none 0 0))) := fun W hk hr =>
    ⟨World.rangeAt_setCells_same W w.heap.size 0 [.slice none 0 0] (hr.out.row.there (o := 0) (m := 1) (Nat.le_refl _)), Kept.setCells (Nat.le_refl _) [.slice none 0 0] 0 hk.out⟩
  by_cases hlong : (100000 : Int) < ((toB src).size : Int)
  · have HP : Hid (SpecR src none) := .inr ⟨rfl, .inl (by omega)⟩
    have HF := hno W0 kA HV0
    obtain ⟨⟨_, x0⟩, g0⟩ := HV0.out.row.at (i := 0) (by omega)
    clear hz
    go_enter Tryz.func4, Tryz.ntmps4
    go_upto_region 2 with fail
    rw [← hW0]
    clear hW0
    go_wp2
    exact bodyPost_ret_j2 [.slice none 0 0] _ (.bool false) Tryz.results4 rfl HF.out.1 Tryz.underlying24 rfl Tryz.sizeWebJ rfl rfl ⟨HF.out.2, .inr ⟨HP.out, rfl⟩⟩
  · have hsz : src.length ≤ 100000 := by omega
    clear hz
    go_enter Tryz.func4, Tryz.ntmps4
    go_wp2_with fail
    rw [← hW0]
    clear hW0
    refine (l8Read_any W0 (toB src) (by rw [toB_size]; exact hsz)).mono ?_
    rintro e w1 ⟨⟨a, cap, rfl, BM, hM⟩, k1⟩
    rw [toB_list] at hM ⊢
    obtain ⟨hLl, hLf⟩ := readL_short (src := src) (by omega)
    obtain ⟨L, hL⟩ : ∃ L, L = readL src := ⟨_, rfl⟩
    rw [← hL] at hM hLl hLf ⊢
    have HL := hide hL
    have HLf := hide hLf
    clear hL hLf
    obtain ⟨W2, hW2⟩ : ∃ W2, W2 = w1.alloc (.cells #[.slice a L.length cap] 24) := ⟨_, rfl⟩
    have kB : Hid (Kept w1 W2) := by rw [hW2]; exact (Kept.refl w1).alloc _
    have HV2 := hide ((HV0.out.kept k1).kept kB.out)
    have HK2 := hide ((kA.out.trans k1).trans kB.out)
    have HM2 := hide (hM.kept kB.out)
    have HN : Hid (∀ W, WebM W BM (.slice a L.length cap) L → Nodes W a L) := fun W h => by
      obtain ⟨a', c', e, h'⟩ := h.nodes
      injection e with e1 _ _
      subst e1
      exact h'
    have HL2 : Hid (w1.heap.size < W2.heap.size) := by show _ < _; rw [hW2]; simp
    have y0 : W2.cell? ⟨w1.heap.size, 0, none⟩ = some (.slice a L.length cap) := by rw [hW2]; exact range_new w1 #[.slice a L.length cap] 24 0 _ rfl
    have hvl : w.heap.size < w1.heap.size := (HV0.out.kept k1).lt
    clear hM k1 kB kA HV0
    go_wp2_with fail
    rw [← hW2]
    clear hW2
    refine (specCheckWeb_any W2 a cap L (by unfold maxLen; omega) HLf.out (HN.out _ HM2.out)).mono ?_
    rintro e w3 ⟨⟨c, rfl, hc⟩, k3⟩
    have HM3 := hide (HM2.out.kept k3)
    have HV3 := hide (HV2.out.kept k3)
    have HK3 := hide (HK2.out.trans k3)
    have y3 := (k3.cell (o := 0) HL2.out).trans y0
    have HL3 : Hid (w1.heap.size < w3.heap.size) := Nat.lt_of_lt_of_le HL2.out k3.size
    clear k3 y0 HM2 HV2 HK2 HL2
    by_cases hc0 : c = 0
    · subst hc0
      have HC := hide hc
      clear hc
      go_wp2_with fail
      refine (specPrint_any w3 a cap L (by unfold maxLen; omega) HLf.out (HN.out _ HM3.out)).mono ?_
      rintro e w4 ⟨hpr, k4⟩
      rcases hpr with ⟨c', h1, h2, _⟩ | ⟨_, rfl⟩
      · exact absurd (h1.unique HC.out) h2
      have HM4 := hide (HM3.out.kept k4)
      have HV4 := hide (HV3.out.kept k4)
      have HK4 := hide (HK3.out.trans k4)
      have y4 := (k4.cell (o := 0) HL3.out).trans y3
      have hl4 : w1.heap.size < w4.heap.size := Nat.lt_of_lt_of_le HL3.out k4.size
      obtain ⟨⟨_, x0⟩, g0⟩ := HV4.out.row.at (i := 0) (by omega)
      have hv4 := HV4.out.lt
      clear k4 y3 HM3 HV3 HK3 HL3
      obtain ⟨B, hB⟩ : ∃ B : ByteArray, B = ⟨(formL L).toArray⟩ := ⟨_, rfl⟩
      rw [← hB]
      obtain ⟨Z, hZ⟩ : ∃ Z : ByteArray, Z = toB src := ⟨_, rfl⟩
      rw [← hZ]
      by_cases hf : formL L = src
      · have e0 : (B.toList == Z.toList) = true := by
          have : B = Z := by rw [hB, hZ, hf]; rfl
          rw [this]; simp
        have HP : Hid (SpecR src (some (readL src))) := .inl ⟨hsz, by rw [← HL.out]; exact HC.out, by rw [← HL.out]; exact hf, rfl⟩
        have HRg := hide (World.rangeAt_setCells_same w4 w.heap.size 0 [.slice a L.length cap] (HV4.out.row.there (o := 0) (m := 1) (Nat.le_refl _)))
        have HKf := hide (Kept.setCells (Nat.le_refl _) [.slice a L.length cap] 0 HK4.out)
        have HNf : Hid (Nodes (w4.setCell ⟨w.heap.size, 0, none⟩ (.slice a L.length cap)) a L) := HN.out _ (HM4.out.setVar HV4.out)
        clear hB hZ hf
        go_wp2
        exact bodyPost_ret_j2 [.slice a L.length cap] _ (.bool true) Tryz.results4 rfl HRg.out Tryz.underlying24 rfl Tryz.sizeWebJ rfl rfl ⟨HKf.out, .inl ⟨a, cap, HP.out, by rw [← HL.out], by rw [← HL.out]; exact HNf.out⟩⟩
      · have e0 : (B.toList == Z.toList) = false := by
          have : ¬ B = Z := fun e => hf (by
            have := congrArg (fun b : ByteArray => b.data.toList) e
            rw [hB, hZ] at this
            exact this)
          cases hx : (B.toList == Z.toList)
          · rfl
          · exact absurd (bytes_eq.1 hx) this
        have HP : Hid (SpecR src none) := .inr ⟨rfl, .inr (.inr ⟨by rw [← HL.out]; exact HC.out, by rw [← HL.out]; exact hf⟩)⟩
        have HF := hno w4 HK4 HV4
        clear hB hZ hf
        go_wp2
        exact bodyPost_ret_j2 [.slice none 0 0] _ (.bool false) Tryz.results4 rfl HF.out.1 Tryz.underlying24 rfl Tryz.sizeWebJ rfl rfl ⟨HF.out.2, .inr ⟨HP.out, rfl⟩⟩
    · have HP : Hid (SpecR src none) := .inr ⟨rfl, .inr (.inl ⟨c, by rw [← HL.out]; exact hc, hc0⟩)⟩
      have ec : (c != 0) = true := by simpa using hc0
      have HF := hno w3 HK3 HV3
      obtain ⟨⟨_, x0⟩, g0⟩ := HV3.out.row.at (i := 0) (by omega)
      clear hc hc0
      go_wp2
      exact bodyPost_ret_j2 [.slice none 0 0] _ (.bool false) Tryz.results4 rfl HF.out.1 Tryz.underlying24 rfl Tryz.sizeWebJ rfl rfl ⟨HF.out.2, .inr ⟨HP.out, rfl⟩⟩

end Go.Proofs.YtinkfgkjdaaeaaaGreatDoor

namespace Go.Proofs.YtinkfgkjdaaeaaaGreatDoor
open Go.RowKit

theorem SpecEnd.form {src : List UInt8} {w w' : World} {e : Ending} (h : SpecEnd src w w' e) : Kept w w' ∧ ∃ (o : Option (List NodeD)) (a : Option Addr) (c : Nat), e = .returned (.tuple #[.agg #[.slice a (o.getD []).length c], .bool o.isSome]) ∧ SpecR src o ∧ Nodes w' a (o.getD []) := by
  obtain ⟨k, ⟨a, c, h1, rfl, h2⟩ | ⟨h1, rfl⟩⟩ := h
  · exact ⟨k, some _, a, c, rfl, h1, h2⟩
  · exact ⟨k, none, none, 0, rfl, h1, fun i hi => by simp at hi⟩
theorem ParseEnd.form {src : List UInt8} {w w' : World} {e : Ending} (h : ParseEnd src w w' e) : Kept w w' ∧ ∃ (o : Option (List NodeD)) (a : Option Addr) (c : Nat), e = .returned (.tuple #[.agg #[.slice a (o.getD []).length c], .bool o.isSome]) ∧ ParseR src o ∧ NodesIn w' w.heap.size w'.heap.size a (o.getD []) := by
  obtain ⟨k, ⟨ns, a, h1, rfl, h2⟩ | ⟨h1, rfl⟩⟩ := h
  · exact ⟨k, some ns, a, _, rfl, h1, h2⟩
  · exact ⟨k, none, none, 0, rfl, h1, .inl rfl⟩
theorem sum_leC {α : Type} (f : α → Nat) (c : Nat) : ∀ l : List α, (∀ x ∈ l, f x ≤ c) → (l.map f).sum ≤ l.length * c
  | [], _ => by simp
  | x :: r, h => by
    have h1 := h x (by simp)
    have h2 := sum_leC f c r (fun y hy => h y (by simp [hy]))
    simp only [List.map_cons, List.sum_cons, List.length_cons, Nat.succ_mul]
    omega
theorem cnt_short {src : List UInt8} (h : src.length ≤ 900000) : 1 + ((readL src).map cntNode).sum ≤ 4611686018427387904 := by
  have hh := readL_fits h (cuts 10 src).length
  rw [List.take_length] at hh
  have h1 : (readL src).length ≤ 900001 := hh.1
  have h2 : ∀ d ∈ readL src, cntNode d ≤ 2430017100018 + 2 := fun d hd => by
    have hd' : d.Shorts 900000 900001 := (hh.2 d hd).1
    have h3 := sum_leC cntStep 2700009 d.steps (fun s hs => by
      have hs' := hd'.each s hs
      have := hs'.asks
      have := hs'.cases
      unfold cntStep
      omega)
    have h4 := hd'.steps
    have h5 := Nat.mul_le_mul_right 2700009 h4
    unfold cntNode
    omega
  have h3 := sum_leC cntNode _ _ h2
  have h4 := Nat.mul_le_mul_right (2430017100018 + 2) h1
  omega
theorem SpecR.short {src : List UInt8} {o : Option (List NodeD)} (h : SpecR src o) : (o.getD []).length ≤ 900001 ∧ (∀ d ∈ o.getD [], d.Fits) ∧ 1 + ((o.getD []).map cntNode).sum ≤ 4611686018427387904 := by
  rcases h with ⟨hl, _, _, rfl⟩ | ⟨rfl, _⟩
  · have h1 := readL_short (src := src) (by omega)
    exact ⟨h1.1, h1.2, cnt_short (by omega)⟩
  · exact ⟨by simp, fun d hd => by simp at hd, by simp⟩

set_option maxRecDepth 100000 in
set_option maxHeartbeats 3200000 in
theorem lawParse (w : World) (S : ByteArray) (hS : S.size ≤ maxLen) {po : Addr} (hE : Env po w) :
    Calls Tryz.prog 3 #[.string S] w fun e w' => e = .returned (.bool true) ∧ Kept w w' := by
  obtain ⟨src, rfl⟩ : ∃ src, S = toB src := ⟨S.data.toList, rfl⟩
  unfold maxLen at hS
  by_cases hlong : (1048576 : Int) < ((toB src).size : Int)
  · go_enter Tryz.func3, Tryz.ntmps3
    go_wp2
    go_ret
    exact ⟨rfl, Kept.refl _⟩
  · have hl : src.length ≤ 2000000 := by rw [toB_size] at hlong; omega
    have HE := hide hE
    clear hE
    go_enter Tryz.func3, Tryz.ntmps3
    go_wp2_with fail
    refine (specParse_any w src hl).mono ?_
    rintro e w1 hend
    obtain ⟨k1, o, a1, c1, rfl, hSp, hN1⟩ := hend.form
    obtain ⟨hr1, hr2, hr3⟩ := hSp.short
    have HSp := hide hSp
    clear hend hSp
    obtain ⟨r, hr⟩ : ∃ r, r = o.getD [] := ⟨_, rfl⟩
    obtain ⟨bo, hbo⟩ : ∃ bo, bo = o.isSome := ⟨_, rfl⟩
    rw [← hr] at hr1 hr2 hr3 hN1 ⊢
    rw [← hbo]
    have HR := hide hr
    have HB := hide hbo
    have HF := hide hr2
    have HN1 := hide hN1
    have hrl : r.length ≤ maxLen := by unfold maxLen; omega
    clear hr hbo hr2 hN1
    obtain ⟨W2, hW2⟩ : ∃ W2, W2 = w1.alloc (.cells #[.slice a1 r.length c1] 24) := ⟨_, rfl⟩
    have kA : Hid (Kept w1 W2) := by rw [hW2]; exact (Kept.refl w1).alloc _
    have HZ2 : Hid (W2.heap.size = w1.heap.size + 1) := by show _ = _; rw [hW2]; simp
    have pW : Hid (W2.cell? ⟨w1.heap.size, 0, none⟩ = some (.slice a1 r.length c1)) := by rw [hW2]; exact range_new w1 #[.slice a1 r.length c1] 24 0 _ rfl
    have HK2 := hide (k1.trans kA.out)
    have HN2 := hide (HN1.out.kept kA.out)
    clear k1 kA HN1
    go_wp2_with fail
    rw [← hW2]
    clear hW2
    refine (implParse_any W2 src hl (HE.out.kept HK2.out)).mono ?_
    rintro e w3 hend
    obtain ⟨k3, o', a3, c3, rfl, hPr, hI3⟩ := hend.form
    obtain rfl : o = o' := (parse_same hPr HSp.out).symm
    rw [← HR.out] at hI3 ⊢
    rw [← HB.out]
    clear hend hPr
    obtain ⟨W4, hW4⟩ : ∃ W4, W4 = w3.alloc (.cells #[.slice a3 r.length c3] 24) := ⟨_, rfl⟩
    have kB : Kept w3 W4 := by rw [hW4]; exact (Kept.refl w3).alloc _
    have HZ4 : Hid (W4.heap.size = w3.heap.size + 1) := by show _ = _; rw [hW4]; simp
    have pG : W4.cell? ⟨w3.heap.size, 0, none⟩ = some (.slice a3 r.length c3) := by rw [hW4]; exact range_new w3 #[.slice a3 r.length c3] 24 0 _ rfl
    have k24 := k3.trans kB
    have HK24 := hide k24
    have pW4 := (k24.cell (o := 0) (by have := HZ2.out; omega)).trans pW.out
    have HI3 := hide hI3
    have HI4 := hide (hI3.same (kB.same _ _))
    have HN4 := hide (HN2.out.kept k24)
    have hz3 := k3.size
    have hzb := HZ2.out
    have hzw := HK2.out.size
    clear k3 kB k24 hI3
    go_upto_region 5 with fail
    rw [← hW4]
    clear hW4
    go_wp2_with fail
    refine (eqWeb_yes W4 a3 a1 c3 c1 r hrl HF.out HI4.out.nodes HN4.out).mono ?_
    rintro e w5 ⟨rfl, k5⟩
    have eb : (bo != bo) = false := by simp
    have HK25 := hide (HK24.out.trans k5)
    have hz5 := k5.size
    have hz4 := HZ4.out
    have pG5 := (k5.cell (o := 0) (by omega : w3.heap.size < W4.heap.size)).trans pG
    have HI5 := hide (HI4.out.same (k5.same _ _))
    clear k5 pW4 pG HK24 HN4 HI4
    go_wp2_with fail
    refine (markWeb_any w5 W2.heap.size w3.heap.size a3 c3 r 1 (by omega) hr3 HI5.out).mono ?_
    rintro e w6 ⟨rfl, hM6, kb6⟩
    have hz6 := kb6.size
    have HK26 := hide (kb6.kept HK25.out (Nat.le_refl _))
    have s6 := kb6.same (l2 := w3.heap.size) (h2 := w3.heap.size + 1) (by omega)
    have pG6 := (s6.cell (o := 0) (Nat.le_refl _) (by omega) (by omega)).trans pG5
    obtain ⟨m6, hm6⟩ : ∃ m6, m6 = 1 + (r.map cntNode).sum := ⟨_, rfl⟩
    rw [← hm6]
    have HMm := hide hm6
    have HM6 := hide hM6.nodes
    clear hm6 kb6 s6 pG5 HI5 HK25 hM6
    go_wp2_with fail
    refine (heldWeb_yes w6 a3 c3 r 1 (by omega) hr3 HM6.out).mono ?_
    rintro e w7 ⟨rfl, k7⟩
    rw [← HMm.out]
    have HK27 := hide (HK26.out.trans k7)
    have HK7 := hide (HK2.out.trans HK27.out)
    have pG7 := (k7.cell (o := 0) (by omega : w3.heap.size < w6.heap.size)).trans pG6
    have HM7 := hide (HM6.out.kept k7)
    have hz7 := k7.size
    clear k7 pG6 HK26 HM6
    go_wp2_with fail
    refine (implParse_any w7 src hl (HE.out.kept HK7.out)).mono ?_
    rintro e w8 hend
    obtain ⟨k8, o', a8, c8, rfl, hPr, hI8⟩ := hend.form
    obtain rfl : o = o' := (parse_same hPr HSp.out).symm
    rw [← HR.out] at hI8 ⊢
    rw [← HB.out]
    clear hend hPr
    obtain ⟨W9, hW9⟩ : ∃ W9, W9 = w8.alloc (.cells #[.slice a8 r.length c8] 24) := ⟨_, rfl⟩
    have kC : Kept w8 W9 := by rw [hW9]; exact (Kept.refl w8).alloc _
    have HK29 := hide ((HK27.out.trans k8).trans kC)
    have HK9 := hide (HK2.out.trans HK29.out)
    have pW9 := (HK29.out.cell (o := 0) (by omega : w1.heap.size < W2.heap.size)).trans pW.out
    have pG9 := ((k8.trans kC).cell (o := 0) (by omega : w3.heap.size < w7.heap.size)).trans pG7
    have HM9 := hide (HM7.out.kept (k8.trans kC))
    have HI9 := hide (hI8.nodes.kept kC)
    have HN9 := hide (HN2.out.kept HK29.out)
    have pH : W9.cell? ⟨w8.heap.size, 0, none⟩ = some (.slice a8 r.length c8) := by rw [hW9]; exact range_new w8 #[.slice a8 r.length c8] 24 0 _ rfl
    have hz8 := k8.size
    have hz9 := kC.size
    clear k8 kC hI8 pG7 HM7
    go_upto_region 16 with fail
    rw [← hW9]
    clear hW9
    go_wp2_with fail
    refine (eqWeb_yes W9 a8 a1 c8 c1 r hrl HF.out HI9.out HN9.out).mono ?_
    rintro e w10 ⟨rfl, k10⟩
    have pG10 := (k10.cell (o := 0) (by omega : w3.heap.size < W9.heap.size)).trans pG9
    have HM10 := hide (HM9.out.kept k10)
    have HK10 := hide (HK9.out.trans k10)
    clear k10 pG9 pW9 pH HM9 HI9 HN9
    go_wp2_with fail
    refine (heldWeb_yes w10 a3 c3 r 1 (by omega) hr3 HM10.out).mono ?_
    rintro e w11 ⟨rfl, k11⟩
    rw [← HMm.out]
    have HK11 := hide (HK10.out.trans k11)
    clear k11
    go_wp2
    go_ret
    exact ⟨rfl, HK11.out⟩

end Go.Proofs.YtinkfgkjdaaeaaaGreatDoor
