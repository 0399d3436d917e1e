import Derived.Test.YtinkfgkjdaaeaaaGreatDoorKJStep
import Derived.Test.YtinkfgkjdaaeaaaGreatDoorKJStop
import Derived.Deep.LoopGhost

namespace Go.Proofs.YtinkfgkjdaaeaaaGreatDoor
open Go.RowKit

theorem Tryz.infoManyS : (Tryz.prog.info? 59).map (fun i => (i.zero, i.size, i.bytes)) = some (some (.agg #[.slice none 0 0, .int .i64 0, .slice none 0 0, .int .i64 0, .int .i64 0, .bool false, .bool false, .string ⟨#[]⟩]), 8, 96) := by kernel_rfl

def ManySEnd (w0 : World) (po : Addr) (rb lb cap : Nat) (L : List (List UInt8)) (a : Nat) (w w' : World) (e : Ending) : Prop :=
  ∃ (v err : Value) (a' : Nat), e = .returned (.tuple #[v, err]) ∧ (∃ va vn vc, v = .slice va vn vc) ∧ Rdr w' rb lb cap L a' ∧ KeptBut rb (rb + 1) w w' ∧
    ((∃ xs cells, Many StepR (L.drop a) (some (xs, L.drop a')) ∧ a ≤ a' ∧ a' ≤ L.length ∧ err = .nilIface ∧ w'.ownsRow w.heap.size 59 8 v xs.length cells ∧ PackSt w' cells xs ∧ xs.length ≤ a' - a)
    ∨ (∃ fb line u, v = .slice none 0 0 ∧ Many StepR (L.drop a) none ∧ err = .iface 67 (.pointer (some ⟨fb, 0, none⟩)) ∧ FaultAt w' fb line u ∧ NotOther w0 po u ∧ w.heap.size ≤ fb))

set_option maxRecDepth 100000 in
set_option maxHeartbeats 6400000 in
theorem manyS_any (w0 w : World) (rb lb cap : Nat) (L : List (List UInt8)) (a : Nat) (hR : Rdr w rb lb cap L a) (ha : a ≤ L.length) {po : Addr} (h0 : Env po w0) (k0 : Kept w0 w) (hrb : w0.heap.size ≤ rb) :
    Calls Tryz.prog 52 #[.pointer (some ⟨rb, 0, none⟩), .func (.func 53) #[.pointer (some ⟨rb, 0, none⟩)] #[]] w fun e w' => ManySEnd w0 po rb lb cap L a w w' e := by
  have hrl := hR.row.lt
  have hlbl := hR.lbl
  have hlen := hR.len
  have HR := hide hR
  have H0 := hide h0
  have K0 := hide k0
  clear hR h0 k0
  obtain ⟨ino, hn0, hn1, hn2, hn3⟩ := info_parts Tryz.infoManyS
  obtain ⟨ci, hci, hcc⟩ := Option.map_eq_some_iff.1 Tryz.compErr
  obtain ⟨cj, hcj, hcz⟩ := Option.map_eq_some_iff.1 Tryz.sizeErr
  go_enter Tryz.func52, Tryz.ntmps52
  go_wp2
  go_loopg [6] (L.length + 1 - a) (fun g x wr => ∃ (a1 : Nat) (xs : List StepD) (cells : List Value), a ≤ a1 ∧ a1 ≤ L.length ∧ a1 + g = L.length + 1 ∧ Hid (Rdr wr rb lb cap L a1) ∧ Hid (KeptBut rb (rb + 1) w wr) ∧ Hid (wr.ownsRow w.heap.size 59 8 x xs.length cells) ∧ Hid (PackSt wr cells xs) ∧ xs.length ≤ a1 - a ∧ Hid (∀ o, Many StepR (L.drop a1) o → Many StepR (L.drop a) (o.map (fun q => (xs ++ q.1, q.2)))))
  case atStart => exact ⟨a, [], [], Nat.le_refl _, ha, by omega, HR, KeptBut.refl _ _ _, World.ownsRow_nil _ _ _ _, PackSt.nil _, by simp, fun o h => by cases o <;> simpa using h⟩
  case round =>
    obtain ⟨a1, xs, cells, ha1, ha2, hg, HR1, HB1, HO1, HP1, hxl, HM⟩ := hrel
    clear HR
    obtain ⟨av, cv, rfl⟩ := own_slice HO1.out
    have HK1 := hide (HB1.out.kept K0.out hrb)
    go_wp2_with fail
    refine (step_any w0 _ rb lb cap L a1 HR1.out ha2 H0.out HK1.out hrb).mono ?_
    intro e w1 hend
    obtain ⟨cs, err, a2, rfl, hsh, hR2, kb2, hcase⟩ := hend
    obtain ⟨s, aa, ca, ac, cc, rfl⟩ := hsh
    have HR2 := hide hR2
    have HB2 := hide (HB1.out.trans kb2)
    have HKd : Hid (SameKind 71 wr w1) := kb2.sameKindR HR1.out.row
    have HO2 : Hid (w1.ownsRow w.heap.size 59 8 (.slice av xs.length cv) xs.length cells) := owns_kept HO1.out HKd.out (by decide)
    have HP2 : Hid (PackSt w1 cells xs) := HP1.out.same HKd.out (by decide) (by decide)
    have hz2 := kb2.size
    have hzw := HB1.out.size
    have HZ2 := hide hz2
    clear hR2 kb2 HR1 HB1 HO1 HP1 HKd HK1 hz2
    have hfull : (s.cells aa ca ac cc).toArray = #[.slice aa s.asks.length ca, .int .i64 s.on, .slice ac s.cases.length cc, .int .i64 s.els, .int .i64 s.fall, .bool s.fin, .bool s.bad, .string s.give] := rfl
    rcases hcase with ⟨y, hP, hlt, hle, rfl, hmem⟩ | ⟨fb, hP, rfl, hf, hfb⟩ | ⟨fb, line, u, hP, rfl, hf, hno, hfb⟩
    · have HM2 : Hid (∀ o, Many StepR (L.drop a2) o → Many StepR (L.drop a) (o.map (fun q => ((xs ++ [y]) ++ q.1, q.2)))) := fun o ho => by
        cases o with
        | none => exact HM.out none (.fall hP ho)
        | some q =>
          obtain ⟨ys, r⟩ := q
          have := HM.out _ (.more hP ho)
          simpa using this
      have HMem := hide hmem
      clear hP hmem HM
      rw [hfull]
      clear hfull
      obtain ⟨W3, hW3⟩ : ∃ W3, W3 = (w1.alloc (.cells #[.slice aa s.asks.length ca, .int .i64 s.on, .slice ac s.cases.length cc, .int .i64 s.els, .int .i64 s.fall, .bool s.fin, .bool s.bad, .string s.give] 59)).alloc (.cells #[.pointer none] 67) := ⟨_, rfl⟩
      have kA : Hid (Kept w1 W3) := by rw [hW3]; exact ((Kept.refl w1).alloc _).alloc _
      have HVr : Hid (W3.rangeAt w1.heap.size 0 [.slice aa s.asks.length ca, .int .i64 s.on, .slice ac s.cases.length cc, .int .i64 s.els, .int .i64 s.fall, .bool s.fin, .bool s.bad, .string s.give]) := by rw [hW3]; exact Kept.range ((Kept.refl _).alloc _) (by simp) (range_new w1 #[.slice aa s.asks.length ca, .int .i64 s.on, .slice ac s.cases.length cc, .int .i64 s.els, .int .i64 s.fall, .bool s.fin, .bool s.bad, .string s.give] 59)
      have v0 := HVr.out 0 _ rfl
      have v1 := HVr.out 1 _ rfl
      have v2 := HVr.out 2 _ rfl
      have v3 := HVr.out 3 _ rfl
      have v4 := HVr.out 4 _ rfl
      have v5 := HVr.out 5 _ rfl
      have v6 := HVr.out 6 _ rfl
      have v7 := HVr.out 7 _ rfl
      simp only [Nat.zero_add] at v0 v1 v2 v3 v4 v5 v6 v7
      go_upto_region 3 with fail
      go_upto_region 5 with fail
      rw [← hW3]
      have hz3 := kA.out.size
      have HO3 := hide (ownsRow_kept' HO2.out kA.out)
      have HP3 : Hid (PackSt W3 cells xs) := HP2.out.same (u := 24) (.of_kept kA.out) (by decide) (by decide)
      have HM3 : Hid (StepMem W3 [.slice aa s.asks.length ca, .int .i64 s.on, .slice ac s.cases.length cc, .int .i64 s.els, .int .i64 s.fall, .bool s.fin, .bool s.bad, .string s.give] y) := HMem.out.same (u := 24) (.of_kept kA.out) (by decide) (by decide)
      have HR3 := hide (HR2.out.kept kA.out)
      have HB3 := hide (HB2.out.and kA.out)
      have hbase : w.heap.size ≤ W3.heap.size := by have := HZ2.out; omega
      clear hW3 HVr HO2 HP2 HMem HR2 HB2 kA hz3 HZ2 hzw
      go_wp2_with (at_builtin; refine wpList_append_lies _ rfl _ _ 50 rfl w.heap.size 59 ino (.agg #[.slice none 0 0, .int .i64 0, .slice none 0 0, .int .i64 0, .int .i64 0, .bool false, .bool false, .string ⟨#[]⟩]) 8 96 Tryz.underlying50 hn0 hn1 hn2 hn3 rfl (by decide) _ _ _ rfl (HO3.out.alloc _) ⟨W3.heap.size, 0, none⟩ 1 1 [.slice aa s.asks.length ca, .int .i64 s.on, .slice ac s.cases.length cc, .int .i64 s.els, .int .i64 s.fall, .bool s.fin, .bool s.bad, .string s.give] rfl rfl ?c1 ?c2 (by decide) ?c3 ?c4 ?c5 _ rfl ?_)
      case c1 =>
        intro j u hj
        rw [Addr.add_mid]
        exact range_new W3 #[.slice aa s.asks.length ca, .int .i64 s.on, .slice ac s.cases.length cc, .int .i64 s.els, .int .i64 s.fall, .bool s.fin, .bool s.bad, .string s.give] 59 j u hj
      case c2 => intro u hu; simp at hu; rcases hu with rfl | rfl | rfl | rfl | rfl | rfl | rfl | rfl <;> rfl
      case c3 => unfold maxLen; omega
      case c4 => omega
      case c5 => simp; omega
      intro g cap' w5 hown' hgrow hloc hg2
      have kB : Kept W3 (W3.alloc (.cells #[.slice aa s.asks.length ca, .int .i64 s.on, .slice ac s.cases.length cc, .int .i64 s.els, .int .i64 s.fall, .bool s.fin, .bool s.bad, .string s.give] 59)) := (Kept.refl _).alloc _
      have hk5 : SameKind 59 (W3.alloc (.cells #[.slice aa s.asks.length ca, .int .i64 s.on, .slice ac s.cases.length cc, .int .i64 s.els, .int .i64 s.fall, .bool s.fin, .bool s.bad, .string s.give] 59)) w5 := SameKind.of_grown (ownsRow_kept' HO3.out kB) hgrow
      have HP5 : Hid (PackSt w5 (cells ++ [.slice aa s.asks.length ca, .int .i64 s.on, .slice ac s.cases.length cc, .int .i64 s.els, .int .i64 s.fall, .bool s.fin, .bool s.bad, .string s.give]) (xs ++ [y])) := ((HP3.out.snoc HM3.out).same (u := 24) (.of_kept kB) (by decide) (by decide)).same hk5 (by decide) (by decide)
      have hbl : Below w.heap.size (W3.alloc (.cells #[.slice aa s.asks.length ca, .int .i64 s.on, .slice ac s.cases.length cc, .int .i64 s.els, .int .i64 s.fall, .bool s.fin, .bool s.bad, .string s.give] 59)) w5 := (Below.refl _ _).grown hgrow (by simp; omega) (fun q hq => ((ownsRow_kept' HO3.out kB).lt q hq).1)
      have HB5 : Hid (KeptBut rb (rb + 1) w w5) := (HB3.out.and kB).below hbl
      have HR5 : Hid (Rdr w5 rb lb cap L a2) := (HR3.out.kept kB).other (hbl.block rb hrl) (hbl.block lb hlbl) hbl.size
      have HO5 : Hid (w5.ownsRow w.heap.size 59 8 (.slice (some ⟨g, 0, none⟩) (xs.length + 1) cap') (xs ++ [y]).length (cells ++ [.slice aa s.asks.length ca, .int .i64 s.on, .slice ac s.cases.length cc, .int .i64 s.els, .int .i64 s.fall, .bool s.fin, .bool s.bad, .string s.give])) := by
        rw [List.length_append]; exact hown'
      clear hown' hgrow hloc hg2 kB hk5 hbl HO3 HP3 HM3 HR3 HB3
      go_wp2
      go_roundg (L.length + 1 - a2)
      case rel => exact ⟨a2, xs ++ [y], cells ++ [.slice aa s.asks.length ca, .int .i64 s.on, .slice ac s.cases.length cc, .int .i64 s.els, .int .i64 s.fall, .bool s.fin, .bool s.bad, .string s.give], by omega, by omega, by omega, HR5, HB5, HO5, HP5, by simp; omega, HM2⟩
      case measure => omega
    · have HPt := hide hP
      have HF := hide hf
      clear hP hf
      rw [hfull]
      clear hfull
      obtain ⟨W3, hW3⟩ : ∃ W3, W3 = (w1.alloc (.cells #[.slice aa s.asks.length ca, .int .i64 s.on, .slice ac s.cases.length cc, .int .i64 s.els, .int .i64 s.fall, .bool s.fin, .bool s.bad, .string s.give] 59)).alloc (.cells #[.pointer none] 67) := ⟨_, rfl⟩
      have kA : Hid (Kept w1 W3) := by rw [hW3]; exact ((Kept.refl w1).alloc _).alloc _
      have HT3 : Hid (RowT W3 (w1.heap.size + 1) 67 1) := by rw [hW3]; have := RowT.made (w1.alloc (.cells #[.slice aa s.asks.length ca, .int .i64 s.on, .slice ac s.cases.length cc, .int .i64 s.els, .int .i64 s.fall, .bool s.fin, .bool s.bad, .string s.give] 59)) #[.pointer none] 67; simp only [World.size_alloc] at this; exact this
      go_upto_region 3 with fail
      go_upto_region 5 with fail
      rw [← hW3]
      generalize hSb : w1.heap.size + 1 = sb at *
      have hsb : w1.heap.size < sb := by omega
      obtain ⟨⟨_, t0⟩, tf⟩ := HT3.out.row.at (i := 0) (by omega)
      have HSB := hide hsb
      clear hsb
      have hz3 := kA.out.size
      have HO3 := hide (ownsRow_kept' HO2.out kA.out)
      have HP3 : Hid (PackSt W3 cells xs) := HP2.out.same (u := 24) (.of_kept kA.out) (by decide) (by decide)
      have HR3 := hide (HR2.out.kept kA.out)
      have HB3 := hide (HB2.out.and kA.out)
      have HF3 := hide (HF.out.kept kA.out)
      have HE3 : Hid (Env po W3) := H0.out.kept (HB3.out.kept K0.out hrb)
      have hfl := heap_lt HF.out
      have hbase : w.heap.size ≤ w1.heap.size := by have := HZ2.out; omega
      have HFB : Hid (w.heap.size ≤ fb) := by show _ ≤ _; omega
      clear hW3 hSb HO2 HP2 HR2 HB2 HF kA HZ2 hzw
      have hne1 : fb ≠ sb := by have := HSB.out; omega
      have hrn : rb ≠ sb := by have := HSB.out; omega
      have hln : lb ≠ sb := by have := HSB.out; omega
      have HGs : Hid (w.heap.size ≤ sb) := by show _ ≤ _; have := HSB.out; omega
      have HC : Hid (∀ W, Kept W3 W → Calls Tryz.prog 48 #[.iface 67 (.pointer (some ⟨fb, 0, none⟩)), .iface 89 (.pointer (some ⟨sb, 0, none⟩))] W fun e w' => e = .returned (.bool true) ∧ w'.cell? ⟨sb, 0, none⟩ = some (.pointer (some ⟨fb, 0, none⟩)) ∧ FaultAt w' fb (a1 : Int) (.iface 211 (.pointer (some po))) ∧ KeptBut sb (sb + 1) W3 w') := fun W kW => as_stop hne1 (HF3.out.kept kW) (HT3.out.kept kW) (HE3.out.kept kW) kW
      go_upto_region 7 with fail
      have HK3 : Hid (Kept w0 W3) := HB3.out.kept K0.out hrb
      have HGz : Hid (w0.heap.size ≤ sb) := by show _ ≤ _; have := K0.out.size; have := HGs.out; omega
      have heq := fun W : World => run_eql_iface_ptr_same (P := Tryz.prog) W po Tryz.underlying35 Tryz.underlying211 hci hcc hcj
      go_region_with (go_at_call 48; refine (HC.out _ (by repeat (first | apply Kept.drew | exact Kept.refl _))).mono ?_; rintro e w4 ⟨rfl, s0, hF4, kb4⟩; have f0 := hF4.c0; have f1 := hF4.c1; have o4 := (H0.out.kept (kb4.kept HK3.out HGz.out)).oth.2.1; have HF4 := hide hF4; have HK4 := hide kb4; clear hF4 kb4)
      all_goals
        have HR4 : Hid (Rdr w4 rb lb cap L a2) := HR3.out.other (HK4.out.block rb HR3.out.row.lt (by omega)) (HK4.out.block lb HR3.out.lbl (by omega)) HK4.out.size
        have HB4 : Hid (KeptBut rb (rb + 1) w w4) := HB3.out.below (HK4.out.belowOf HGs.out HB3.out.size)
        have hkd : SameKind 67 W3 w4 := HK4.out.sameKindR HT3.out
        have HO4 : Hid (w4.ownsRow w.heap.size 59 8 (.slice av xs.length cv) xs.length cells) := owns_kept HO3.out hkd (by decide)
        have HP4 : Hid (PackSt w4 cells xs) := HP3.out.same hkd (by decide) (by decide)
        have c1 := HR4.out.c1
        obtain ⟨_, q1⟩ := HR4.out.row.row.at (i := 1) (by omega)
        clear hkd HK4 HO3 HP3 HR3 HB3 t0 tf
        go_wp2
        go_ret2
        have HRs := HR4.out.set (a' := a1) (by omega)
        have hks : SameKind 71 w4 (w4.setCell ⟨rb, 1, none⟩ (.int .i64 (a1 : Int))) := HR4.out.row.same (o := 1) _
        refine ⟨_, _, a1, rfl, ⟨_, _, _, rfl⟩, HRs.kept (by repeat (first | apply Kept.drew | exact Kept.refl _)), ?_, .inl ⟨xs, cells, ?_, ha1, ha2, rfl, ?_, ?_, hxl⟩⟩
        · repeat (first | apply KeptBut.drew | exact HB4.out.setCell (p := ⟨rb, 1, none⟩) (Nat.le_refl rb) (Nat.lt_succ_self rb) _)
        · have := HM.out _ (.stop HPt.out)
          simpa using this
        · exact owns_kept HO4.out hks (by decide)
        · exact HP4.out.same hks (by decide) (by decide)
    · rcases hno with ⟨p, rfl, hp, hpk⟩ | ⟨p, rfl⟩
      · have HPt := hide hP
        have HF := hide hf
        clear hP hf
        have HPk := hide hpk
        clear hpk
        rw [hfull]
        clear hfull
        obtain ⟨W3, hW3⟩ : ∃ W3, W3 = (w1.alloc (.cells #[.slice aa s.asks.length ca, .int .i64 s.on, .slice ac s.cases.length cc, .int .i64 s.els, .int .i64 s.fall, .bool s.fin, .bool s.bad, .string s.give] 59)).alloc (.cells #[.pointer none] 67) := ⟨_, rfl⟩
        have kA : Hid (Kept w1 W3) := by rw [hW3]; exact ((Kept.refl w1).alloc _).alloc _
        have HT3 : Hid (RowT W3 (w1.heap.size + 1) 67 1) := by rw [hW3]; have := RowT.made (w1.alloc (.cells #[.slice aa s.asks.length ca, .int .i64 s.on, .slice ac s.cases.length cc, .int .i64 s.els, .int .i64 s.fall, .bool s.fin, .bool s.bad, .string s.give] 59)) #[.pointer none] 67; simp only [World.size_alloc] at this; exact this
        go_upto_region 3 with fail
        go_upto_region 5 with fail
        rw [← hW3]
        generalize hSb : w1.heap.size + 1 = sb at *
        have hsb : w1.heap.size < sb := by omega
        obtain ⟨⟨_, t0⟩, tf⟩ := HT3.out.row.at (i := 0) (by omega)
        have HSB := hide hsb
        clear hsb
        have hz3 := kA.out.size
        have HO3 := hide (ownsRow_kept' HO2.out kA.out)
        have HP3 : Hid (PackSt W3 cells xs) := HP2.out.same (u := 24) (.of_kept kA.out) (by decide) (by decide)
        have HR3 := hide (HR2.out.kept kA.out)
        have HB3 := hide (HB2.out.and kA.out)
        have HF3 := hide (HF.out.kept kA.out)
        have HE3 : Hid (Env po W3) := H0.out.kept (HB3.out.kept K0.out hrb)
        have hfl := heap_lt HF.out
        have hbase : w.heap.size ≤ w1.heap.size := by have := HZ2.out; omega
        have HFB : Hid (w.heap.size ≤ fb) := by show _ ≤ _; omega
        clear hW3 hSb HO2 HP2 HR2 HB2 HF kA HZ2 hzw
        have hne1 : fb ≠ sb := by have := HSB.out; omega
        have hrn : rb ≠ sb := by have := HSB.out; omega
        have hln : lb ≠ sb := by have := HSB.out; omega
        have HGs : Hid (w.heap.size ≤ sb) := by show _ ≤ _; have := HSB.out; omega
        have HC : Hid (∀ W, Kept W3 W → Calls Tryz.prog 48 #[.iface 67 (.pointer (some ⟨fb, 0, none⟩)), .iface 89 (.pointer (some ⟨sb, 0, none⟩))] W fun e w' => e = .returned (.bool true) ∧ w'.cell? ⟨sb, 0, none⟩ = some (.pointer (some ⟨fb, 0, none⟩)) ∧ FaultAt w' fb line (.iface 211 (.pointer (some p))) ∧ KeptBut sb (sb + 1) W3 w') := fun W kW => as_stop hne1 (HF3.out.kept kW) (HT3.out.kept kW) (HE3.out.kept kW) kW
        have HK3 : Hid (Kept w0 W3) := HB3.out.kept K0.out hrb
        have HGz : Hid (w0.heap.size ≤ sb) := by show _ ≤ _; have := K0.out.size; have := HGs.out; omega
        go_upto_region 7 with fail
        have heq : Hid (∀ W : World, Kept w0 W → (binOp .eql 35 (.iface 211 (.pointer (some p))) (.iface 211 (.pointer (some po)))).run Tryz.prog W = .ok (.bool false) W) := fun W kW => by
          obtain ⟨c1, t1, hb1⟩ := HPk.out.kept kW
          obtain ⟨c2, t2, hb2⟩ := (H0.out.kept kW).oth.2.2
          exact run_eql_iface_ptr_other (P := Tryz.prog) W Tryz.underlying35 Tryz.underlying211 hci hcc hcj (by rw [hcz]; decide) hp hb1 hb2
        go_region_with (go_at_call 48; refine (HC.out _ (by repeat (first | apply Kept.drew | exact Kept.refl _))).mono ?_; rintro e w4 ⟨rfl, s0, hF4, kb4⟩; have f0 := hF4.c0; have f1 := hF4.c1; have o4 := (H0.out.kept (kb4.kept HK3.out HGz.out)).oth.2.1; have he4 := heq.out w4 (kb4.kept HK3.out HGz.out); have he5 := heq.out w4.drew (Kept.drew (kb4.kept HK3.out HGz.out)); have HF4 := hide hF4; have HK4 := hide kb4; clear hF4 kb4)
        all_goals
          have HR4 : Hid (Rdr w4 rb lb cap L a2) := HR3.out.other (HK4.out.block rb HR3.out.row.lt (by omega)) (HK4.out.block lb HR3.out.lbl (by omega)) HK4.out.size
          have HB4 : Hid (KeptBut rb (rb + 1) w w4) := HB3.out.below (HK4.out.belowOf HGs.out HB3.out.size)
          clear HK4 HO3 HP3 HR3 HB3 t0 tf
          go_wp2
          go_ret2
          refine ⟨_, _, a2, rfl, ⟨_, _, _, rfl⟩, HR4.out.kept (by repeat (first | apply Kept.drew | exact Kept.refl _)), ?_, .inr ⟨fb, line, _, rfl, ?_, rfl, HF4.out, .inl ⟨p, rfl, hp, HPk.out⟩, HFB.out⟩⟩
          · repeat (first | apply KeptBut.drew | exact HB4.out)
          · have := HM.out _ (.bad HPt.out)
            simpa using this
      · have HPt := hide hP
        have HF := hide hf
        clear hP hf
        rw [hfull]
        clear hfull
        obtain ⟨W3, hW3⟩ : ∃ W3, W3 = (w1.alloc (.cells #[.slice aa s.asks.length ca, .int .i64 s.on, .slice ac s.cases.length cc, .int .i64 s.els, .int .i64 s.fall, .bool s.fin, .bool s.bad, .string s.give] 59)).alloc (.cells #[.pointer none] 67) := ⟨_, rfl⟩
        have kA : Hid (Kept w1 W3) := by rw [hW3]; exact ((Kept.refl w1).alloc _).alloc _
        have HT3 : Hid (RowT W3 (w1.heap.size + 1) 67 1) := by rw [hW3]; have := RowT.made (w1.alloc (.cells #[.slice aa s.asks.length ca, .int .i64 s.on, .slice ac s.cases.length cc, .int .i64 s.els, .int .i64 s.fall, .bool s.fin, .bool s.bad, .string s.give] 59)) #[.pointer none] 67; simp only [World.size_alloc] at this; exact this
        go_upto_region 3 with fail
        go_upto_region 5 with fail
        rw [← hW3]
        generalize hSb : w1.heap.size + 1 = sb at *
        have hsb : w1.heap.size < sb := by omega
        obtain ⟨⟨_, t0⟩, tf⟩ := HT3.out.row.at (i := 0) (by omega)
        have HSB := hide hsb
        clear hsb
        have hz3 := kA.out.size
        have HO3 := hide (ownsRow_kept' HO2.out kA.out)
        have HP3 : Hid (PackSt W3 cells xs) := HP2.out.same (u := 24) (.of_kept kA.out) (by decide) (by decide)
        have HR3 := hide (HR2.out.kept kA.out)
        have HB3 := hide (HB2.out.and kA.out)
        have HF3 := hide (HF.out.kept kA.out)
        have HE3 : Hid (Env po W3) := H0.out.kept (HB3.out.kept K0.out hrb)
        have hfl := heap_lt HF.out
        have hbase : w.heap.size ≤ w1.heap.size := by have := HZ2.out; omega
        have HFB : Hid (w.heap.size ≤ fb) := by show _ ≤ _; omega
        clear hW3 hSb HO2 HP2 HR2 HB2 HF kA HZ2 hzw
        have hne1 : fb ≠ sb := by have := HSB.out; omega
        have hrn : rb ≠ sb := by have := HSB.out; omega
        have hln : lb ≠ sb := by have := HSB.out; omega
        have HGs : Hid (w.heap.size ≤ sb) := by show _ ≤ _; have := HSB.out; omega
        have HC : Hid (∀ W, Kept W3 W → Calls Tryz.prog 48 #[.iface 67 (.pointer (some ⟨fb, 0, none⟩)), .iface 89 (.pointer (some ⟨sb, 0, none⟩))] W fun e w' => e = .returned (.bool true) ∧ w'.cell? ⟨sb, 0, none⟩ = some (.pointer (some ⟨fb, 0, none⟩)) ∧ FaultAt w' fb line (.iface 195 (.pointer (some p))) ∧ KeptBut sb (sb + 1) W3 w') := fun W kW => as_stop hne1 (HF3.out.kept kW) (HT3.out.kept kW) (HE3.out.kept kW) kW
        have HK3 : Hid (Kept w0 W3) := HB3.out.kept K0.out hrb
        have HGz : Hid (w0.heap.size ≤ sb) := by show _ ≤ _; have := K0.out.size; have := HGs.out; omega
        go_upto_region 7 with fail
        have heq : Hid (∀ W : World, Kept w0 W → (binOp .eql 35 (.iface 195 (.pointer (some p))) (.iface 211 (.pointer (some po)))).run Tryz.prog W = .ok (.bool false) W) := fun W _ => run_eql_types W Tryz.underlying35 (by decide) _ _
        go_region_with (go_at_call 48; refine (HC.out _ (by repeat (first | apply Kept.drew | exact Kept.refl _))).mono ?_; rintro e w4 ⟨rfl, s0, hF4, kb4⟩; have f0 := hF4.c0; have f1 := hF4.c1; have o4 := (H0.out.kept (kb4.kept HK3.out HGz.out)).oth.2.1; have he4 := heq.out w4 (kb4.kept HK3.out HGz.out); have he5 := heq.out w4.drew (Kept.drew (kb4.kept HK3.out HGz.out)); have HF4 := hide hF4; have HK4 := hide kb4; clear hF4 kb4)
        all_goals
          have HR4 : Hid (Rdr w4 rb lb cap L a2) := HR3.out.other (HK4.out.block rb HR3.out.row.lt (by omega)) (HK4.out.block lb HR3.out.lbl (by omega)) HK4.out.size
          have HB4 : Hid (KeptBut rb (rb + 1) w w4) := HB3.out.below (HK4.out.belowOf HGs.out HB3.out.size)
          clear HK4 HO3 HP3 HR3 HB3 t0 tf
          go_wp2
          go_ret2
          refine ⟨_, _, a2, rfl, ⟨_, _, _, rfl⟩, HR4.out.kept (by repeat (first | apply Kept.drew | exact Kept.refl _)), ?_, .inr ⟨fb, line, _, rfl, ?_, rfl, HF4.out, .inr ⟨p, rfl⟩, HFB.out⟩⟩
          · repeat (first | apply KeptBut.drew | exact HB4.out)
          · have := HM.out _ (.bad HPt.out)
            simpa using this

end Go.Proofs.YtinkfgkjdaaeaaaGreatDoor
