import Derived.Test.YtinkfgkjdaaeaaaGreatDoorKWImpl2

namespace Go.Proofs.YtinkfgkjdaaeaaaGreatDoor
open Go.RowKit

def WaysOk (s : StepD) (n : Int) : Prop := s.cases.length ≤ 5 ∧ CasesOk s n ∧ (0 ≤ s.els ∧ s.els < n) ∧ (-1 ≤ s.fall ∧ s.fall < n)

set_option maxRecDepth 100000 in
set_option maxHeartbeats 1600000 in
theorem soundWays_any (w : World) (s : StepD) (aa ac : Option Addr) (ca cc : Nat) (n : Int) (hs : s.Fits) (hn : 1 ≤ n ∧ n ≤ 20) (hC : Cases w ac s.cases) :
    Calls Tryz.prog 194 #[.agg #[.slice aa s.asks.length ca, .int .i64 s.on, .slice ac s.cases.length cc, .int .i64 s.els, .int .i64 s.fall, .bool s.fin, .bool s.bad, .string s.give], .int .i64 n] w fun e w' => Says e (WaysOk s n) ∧ Kept w w' := by
  have h1 := hs.cases
  unfold maxLen at h1
  obtain ⟨hn0, hn1⟩ := hn
  have k0 : Kept w (w.alloc (.cells #[.slice aa s.asks.length ca, .int .i64 s.on, .slice ac s.cases.length cc, .int .i64 s.els, .int .i64 s.fall, .bool s.fin, .bool s.bad, .string s.give] 164)) := (Kept.refl _).alloc _
  by_cases a1 : (s.cases.length : Int) ≤ 5
  · go_enter Tryz.func194, Tryz.ntmps194
    go_wp2
    go_loopw [16] (fun i wr => ∃ k : Nat, k ≤ s.cases.length ∧ i = .int .i64 k ∧ Kept (w.alloc (.cells #[.slice aa s.asks.length ca, .int .i64 s.on, .slice ac s.cases.length cc, .int .i64 s.els, .int .i64 s.fall, .bool s.fin, .bool s.bad, .string s.give] 164)) wr ∧ ∀ j, j < k → CaseOkAt s n j) (fun i _ => s.cases.length - (intOf i).toNat)
    case atStart => exact ⟨0, Nat.zero_le _, rfl, Kept.refl _, fun j hj => absurd hj (Nat.not_lt_zero _)⟩
    case round =>
      obtain ⟨k, hk, rfl, hw, hg⟩ := hrel
      have HG := hide hg
      clear hg
      have hz1 := hw.size
      simp only [World.size_alloc] at hz1
      by_cases hlt : k < s.cases.length
      · obtain ⟨b, o, rfl, hb, hc⟩ := (hC.kept k0).kept hw k hlt
        have hce : (s.cases.getD k CaseD.zero).text.size ≤ maxLen := (hs.caseEach _ (by simp [List.getD, hlt])).1
        obtain ⟨c, hck⟩ : ∃ c, c = s.cases.getD k CaseD.zero := ⟨_, rfl⟩
        rw [← hck] at hc hce
        have HCK := hide hck
        clear hck
        unfold maxLen at hce
        have c0 := hc 0 _ rfl
        have c1 := hc 1 _ rfl
        simp only [Nat.add_zero] at c0
        clear hc
        by_cases d1 : (c.text.size : Int) ≤ 200
        · by_cases d2 : 0 ≤ c.goto
          · cases d3 : decide (c.goto < n)
            · have d3' : n ≤ c.goto := by simpa using d3
              go_wp2
              go_ret
              exact ⟨Says.no fun h => by have := h.2.1 k hlt; unfold CaseOkAt at this; rw [← HCK.out] at this; obtain ⟨q1, q2, q3⟩ := this; omega, k0.trans (hw.alloc _)⟩
            · have d3' : c.goto < n := by simpa using d3
              go_wp2
              go_roundw
              case rel =>
                refine ⟨k + 1, by omega, by go_num, hw.alloc _, fun j hj => ?_⟩
                by_cases e : j = k
                · subst e
                  unfold CaseOkAt
                  rw [← HCK.out]
                  exact ⟨by omega, by omega, by omega⟩
                · exact unhide HG j (by omega)
              case measure => simp [intOf]; omega
          · go_wp2
            go_ret
            exact ⟨Says.no fun h => by have := h.2.1 k hlt; unfold CaseOkAt at this; rw [← HCK.out] at this; obtain ⟨q1, q2, q3⟩ := this; omega, k0.trans (hw.alloc _)⟩
        · go_wp2
          go_ret
          exact ⟨Says.no fun h => by have := h.2.1 k hlt; unfold CaseOkAt at this; rw [← HCK.out] at this; obtain ⟨q1, q2, q3⟩ := this; omega, k0.trans (hw.alloc _)⟩
      · obtain ⟨hc1, hf1⟩ := hw.rules
        have hcs : Hid (CasesOk s n) := fun j hj => unhide HG j (by omega)
        clear HG
        by_cases b1 : 0 ≤ s.els
        · cases b2 : decide (s.els < n)
          · have b2' : n ≤ s.els := by simpa using b2
            go_wp2
            go_ret
            exact ⟨Says.no fun h => by have := h.2.2; omega, k0.trans hw⟩
          · have b2' : s.els < n := by simpa using b2
            cases b3 : (s.fall == -1)
            · by_cases b4 : 0 ≤ s.fall
              · cases b5 : decide (s.fall < n)
                · have b5' : n ≤ s.fall := by simpa using b5
                  go_wp2
                  go_ret
                  exact ⟨Says.no fun h => by have := h.2.2; omega, k0.trans hw⟩
                · have b5' : s.fall < n := by simpa using b5
                  go_wp2
                  go_ret
                  exact ⟨Says.yes ⟨by omega, hcs.out, ⟨by omega, by omega⟩, ⟨by omega, by omega⟩⟩, k0.trans hw⟩
              · go_wp2
                go_ret
                exact ⟨Says.no fun h => by have := h.2.2; simp at b3; omega, k0.trans hw⟩
            · go_wp2
              go_ret
              exact ⟨Says.yes ⟨by omega, hcs.out, ⟨by omega, by omega⟩, by simp at b3; omega⟩, k0.trans hw⟩
        · go_wp2
          go_ret
          exact ⟨Says.no fun h => by have := h.2.2; omega, k0.trans hw⟩
  · go_enter Tryz.func194, Tryz.ntmps194
    go_wp2
    go_ret
    exact ⟨Says.no fun h => by have := h.1; omega, k0⟩

end Go.Proofs.YtinkfgkjdaaeaaaGreatDoor

namespace Go.Proofs.YtinkfgkjdaaeaaaGreatDoor
open Go.RowKit

set_option maxRecDepth 100000 in
set_option maxHeartbeats 800000 in
theorem questionSound_any (w : World) (s : StepD) (aa ac : Option Addr) (ca cc : Nat) (n : Int) (hs : s.Fits) (hn : 1 ≤ n ∧ n ≤ 20) (hA : Strs w aa s.asks) (hC : Cases w ac s.cases) (hca : s.asks.length ≤ ca) :
    Calls Tryz.prog 192 #[.agg #[.slice aa s.asks.length ca, .int .i64 s.on, .slice ac s.cases.length cc, .int .i64 s.els, .int .i64 s.fall, .bool s.fin, .bool s.bad, .string s.give], .int .i64 n] w fun e w' => Says e (AskOk s n) ∧ Kept w w' := by
  have k0 : Kept w (w.alloc (.cells #[.slice aa s.asks.length ca, .int .i64 s.on, .slice ac s.cases.length cc, .int .i64 s.els, .int .i64 s.fall, .bool s.fin, .bool s.bad, .string s.give] 164)) := (Kept.refl _).alloc _
  have hgive := empty_iff s.give
  have HGV := hide hgive
  clear hgive
  cases hbad : s.bad
  · rw [hbad] at k0
    cases hg : s.give.toList.isEmpty
    · go_enter Tryz.func192, Tryz.ntmps192
      go_wp2
      go_ret
      exact ⟨Says.no fun h => by have := HGV.out.2 h.1.2.1; simp [this] at hg, k0⟩
    · have HE : Hid (s.give.size = 0) := HGV.out.1 (List.isEmpty_iff.1 hg)
      go_enter Tryz.func192, Tryz.ntmps192
      go_wp2_with fail
      have hask := soundAsks_any (w.alloc (.cells #[.slice aa s.asks.length ca, .int .i64 s.on, .slice ac s.cases.length cc, .int .i64 s.els, .int .i64 s.fall, .bool s.fin, .bool s.bad, .string s.give] 164)) s aa ac ca cc hs (hA.kept ((Kept.refl _).alloc _)) hca
      rw [hbad] at hask
      refine hask.mono ?_
      clear hask
      rintro e w1 ⟨hsay, k1⟩
      have k2 := k0.trans k1
      rcases hsay.cases with ⟨rfl, hyes⟩ | ⟨rfl, hno⟩
      · have HY := hide hyes
        clear hyes hsay
        obtain ⟨hc1, hf1⟩ := k1.rules
        have hz1 := k1.size
        simp only [World.size_alloc] at hz1
        clear k0 k1
        have hz : w.heap.size < w1.heap.size := by omega
        go_wp2_with fail
        have hways := soundWays_any w1 s aa ac ca cc n hs hn (hC.kept k2)
        rw [hbad] at hways
        refine hways.mono ?_
        clear hways
        rintro e w2 ⟨hsay, k3⟩
        have k4 := k2.trans k3
        rcases hsay.cases with ⟨rfl, hyes⟩ | ⟨rfl, hno⟩
        · have HW := hide hyes
          clear hyes hsay hc1 hf1
          go_wp2
          go_ret
          exact ⟨Says.yes ⟨⟨hbad, HE.out, HY.out.1, HY.out.2.1, HW.out.1, HW.out.2.2.1, HW.out.2.2.2, HY.out.2.2⟩, HW.out.2.1⟩, k4⟩
        · have HW := hide hno
          clear hno hsay hc1 hf1
          go_wp2
          go_ret
          exact ⟨Says.no fun h => HW.out ⟨h.1.2.2.2.2.1, h.2, h.1.2.2.2.2.2.1, h.1.2.2.2.2.2.2.1⟩, k4⟩
      · have HW := hide hno
        clear hno hsay k0 k1
        go_wp2
        go_ret
        exact ⟨Says.no fun h => HW.out ⟨h.1.2.2.1, h.1.2.2.2.1, h.1.2.2.2.2.2.2.2⟩, k2⟩
  · go_enter Tryz.func192, Tryz.ntmps192
    go_wp2
    go_ret
    exact ⟨Says.no fun h => by have := h.1.1; simp [hbad] at this, (Kept.refl _).alloc _⟩

theorem goodSound_any (w : World) (s : StepD) (aa ac : Option Addr) (ca cc : Nat) (n : Int) (hs : s.Fits) :
    Calls Tryz.prog 201 #[.agg #[.slice aa s.asks.length ca, .int .i64 s.on, .slice ac s.cases.length cc, .int .i64 s.els, .int .i64 s.fall, .bool s.fin, .bool s.bad, .string s.give], .int .i64 n] w fun e w' => Says e (EndOk s) ∧ Kept w w' := by
  have k0 : Kept w (w.alloc (.cells #[.slice aa s.asks.length ca, .int .i64 s.on, .slice ac s.cases.length cc, .int .i64 s.els, .int .i64 s.fall, .bool s.fin, .bool s.bad, .string s.give] 166)) := (Kept.refl _).alloc _
  go_enter Tryz.func201, Tryz.ntmps201
  go_wp2_with fail
  refine (soundEnd_any _ s.asks.length s.on s.cases.length s.els s.fall s.fin s.bad s.give aa ac ca cc hs.asks hs.cases hs.give).mono ?_
  rintro e w1 ⟨⟨r, rfl, hr⟩, k1⟩
  have HR := hide hr
  have k2 := k0.trans k1
  clear hr k0 k1
  go_wp2
  go_ret
  exact ⟨⟨r, rfl, HR.out⟩, k2⟩

theorem badSound_any (w : World) (s : StepD) (aa ac : Option Addr) (ca cc : Nat) (n : Int) (hs : s.Fits) :
    Calls Tryz.prog 199 #[.agg #[.slice aa s.asks.length ca, .int .i64 s.on, .slice ac s.cases.length cc, .int .i64 s.els, .int .i64 s.fall, .bool s.fin, .bool s.bad, .string s.give], .int .i64 n] w fun e w' => Says e (EndOk s) ∧ Kept w w' := by
  have k0 : Kept w (w.alloc (.cells #[.slice aa s.asks.length ca, .int .i64 s.on, .slice ac s.cases.length cc, .int .i64 s.els, .int .i64 s.fall, .bool s.fin, .bool s.bad, .string s.give] 165)) := (Kept.refl _).alloc _
  go_enter Tryz.func199, Tryz.ntmps199
  go_wp2_with fail
  refine (soundEnd_any _ s.asks.length s.on s.cases.length s.els s.fall s.fin s.bad s.give aa ac ca cc hs.asks hs.cases hs.give).mono ?_
  rintro e w1 ⟨⟨r, rfl, hr⟩, k1⟩
  have HR := hide hr
  have k2 := k0.trans k1
  clear hr k0 k1
  go_wp2
  go_ret
  exact ⟨⟨r, rfl, HR.out⟩, k2⟩

set_option maxHeartbeats 800000 in
theorem kindOf_ask (w : World) (s : StepD) (aa ac : Option Addr) (ca cc : Nat) :
    Calls Tryz.prog 77 #[.agg #[.slice aa s.asks.length ca, .int .i64 s.on, .slice ac s.cases.length cc, .int .i64 s.els, .int .i64 s.fall, .bool false, .bool s.bad, .string s.give]] w fun e w' => e = .returned (.iface 164 (.agg #[.slice aa s.asks.length ca, .int .i64 s.on, .slice ac s.cases.length cc, .int .i64 s.els, .int .i64 s.fall, .bool false, .bool s.bad, .string s.give])) ∧ Kept w w' := by
  go_enter Tryz.func77, Tryz.ntmps77
  go_wp2
  go_ret
  exact ⟨rfl, (Kept.refl _).alloc _⟩

set_option maxHeartbeats 800000 in
theorem kindOf_bad (w : World) (s : StepD) (aa ac : Option Addr) (ca cc : Nat) :
    Calls Tryz.prog 77 #[.agg #[.slice aa s.asks.length ca, .int .i64 s.on, .slice ac s.cases.length cc, .int .i64 s.els, .int .i64 s.fall, .bool true, .bool true, .string s.give]] w fun e w' => e = .returned (.iface 165 (.agg #[.slice aa s.asks.length ca, .int .i64 s.on, .slice ac s.cases.length cc, .int .i64 s.els, .int .i64 s.fall, .bool true, .bool true, .string s.give])) ∧ Kept w w' := by
  go_enter Tryz.func77, Tryz.ntmps77
  go_wp2
  go_ret
  exact ⟨rfl, (Kept.refl _).alloc _⟩

set_option maxHeartbeats 800000 in
theorem kindOf_good (w : World) (s : StepD) (aa ac : Option Addr) (ca cc : Nat) :
    Calls Tryz.prog 77 #[.agg #[.slice aa s.asks.length ca, .int .i64 s.on, .slice ac s.cases.length cc, .int .i64 s.els, .int .i64 s.fall, .bool true, .bool false, .string s.give]] w fun e w' => e = .returned (.iface 166 (.agg #[.slice aa s.asks.length ca, .int .i64 s.on, .slice ac s.cases.length cc, .int .i64 s.els, .int .i64 s.fall, .bool true, .bool false, .string s.give])) ∧ Kept w w' := by
  go_enter Tryz.func77, Tryz.ntmps77
  go_wp2
  go_ret
  exact ⟨rfl, (Kept.refl _).alloc _⟩

end Go.Proofs.YtinkfgkjdaaeaaaGreatDoor

namespace Go.Proofs.YtinkfgkjdaaeaaaGreatDoor
open Go.RowKit

set_option maxHeartbeats 800000 in
theorem l1Names_any (w : World) (a : Option Addr) (cap : Nat) (l : List ByteArray) (hl : l.length ≤ maxLen) (hs : ∀ s ∈ l, s.size ≤ maxLen) (hS : Strs w a l) :
    Calls Tryz.prog 65 #[.slice a l.length cap] w fun e w' => Says e (NamesOk l) ∧ Kept w w' := by
  unfold maxLen at hl
  go_enter Tryz.func65, Tryz.ntmps65
  go_wp2
  go_loopw [3] (fun i wr => ∃ k : Nat, k ≤ l.length ∧ i = .int .i64 k ∧ Kept w wr ∧ ∀ j, j < k → NameOk (l.getD j ByteArray.empty) ∧ ∀ m, m < j → l.getD m ByteArray.empty ≠ l.getD j ByteArray.empty) (fun i _ => l.length - (intOf i).toNat)
  case atStart => exact ⟨0, Nat.zero_le _, rfl, Kept.refl _, fun j hj => absurd hj (Nat.not_lt_zero _)⟩
  case round =>
    obtain ⟨k, hk, rfl, hw, hg⟩ := hrel
    have HG := hide hg
    clear hg
    by_cases hlt : k < l.length
    · obtain ⟨b, o, rfl, hb, hc⟩ := hS.kept hw k hlt
      have hsz : (l.getD k ByteArray.empty).size ≤ maxLen := hs _ (by simp [List.getD, hlt])
      obtain ⟨s, hsk⟩ : ∃ s, s = l.getD k ByteArray.empty := ⟨_, rfl⟩
      rw [← hsk] at hc hsz
      have HSK := hide hsk
      clear hsk
      go_wp2_with fail
      refine (l1NameOk_any _ s hsz).mono ?_
      rintro e w1 ⟨hsay, rfl⟩
      rcases hsay.cases with ⟨rfl, hyes⟩ | ⟨rfl, hno⟩
      · have HY := hide hyes
        clear hyes hsay
        go_wp2
        clear hc
        go_loopw [4] (fun m wr => ∃ q : Nat, q ≤ k ∧ m = .int .i64 q ∧ Kept w wr ∧ ∀ t, t < q → l.getD t ByteArray.empty ≠ s) (fun m _ => k - (intOf m).toNat)
        case atStart => exact ⟨0, Nat.zero_le _, rfl, hw, fun j hj => absurd hj (Nat.not_lt_zero _)⟩
        case round =>
          obtain ⟨q, hq, rfl, hw2, hd⟩ := hrel
          have HD := hide hd
          clear hd hw
          by_cases hqlt : q < k
          · obtain ⟨b', o', e1, hb', hc'⟩ := hS.kept hw2 k hlt
            simp only [Option.some.injEq, Addr.mk.injEq, and_true] at e1
            obtain ⟨rfl, rfl⟩ := e1
            obtain ⟨b', o', e1, hb'', hd'⟩ := hS.kept hw2 q (by omega)
            simp only [Option.some.injEq, Addr.mk.injEq, and_true] at e1
            obtain ⟨rfl, rfl⟩ := e1
            rw [← HSK.out] at hc'
            obtain ⟨t, htk⟩ : ∃ t, t = l.getD q ByteArray.empty := ⟨_, rfl⟩
            rw [← htk] at hd'
            have HTK := hide htk
            clear htk
            cases hts : (t.toList == s.toList)
            · go_wp2
              go_region
              all_goals
                go_wp2
                go_roundw
                case rel =>
                  refine ⟨q + 1, by omega, by go_num, by repeat (first | apply Kept.drew | exact hw2), fun j hj => ?_⟩
                  by_cases e : j = q
                  · subst e
                    rw [← HTK.out]
                    exact bytes_ne hts
                  · exact unhide HD j (by omega)
                case measure => simp [intOf]; omega
            · go_wp2
              go_region
              all_goals
                go_wp2
                go_ret
                exact ⟨Says.no fun h => (h k hlt).2 q hqlt (by rw [← HTK.out, ← HSK.out]; exact bytes_eq.1 hts), by repeat (first | apply Kept.drew | exact hw2)⟩
          · go_wp2
            go_roundw
            case rel =>
              refine ⟨k + 1, by omega, by go_num, hw2, fun j hj => ?_⟩
              by_cases e : j = k
              · subst e
                rw [← HSK.out]
                exact ⟨HY.out, fun m hm => unhide HD m (by omega)⟩
              · exact unhide HG j (by omega)
            case measure => simp [intOf]; omega
      · go_wp2
        go_ret
        exact ⟨Says.no fun h => hno (by rw [HSK.out]; exact (h k hlt).1), hw⟩
    · go_wp2
      go_ret
      exact ⟨Says.yes fun j hj => unhide HG j (by omega), hw⟩

end Go.Proofs.YtinkfgkjdaaeaaaGreatDoor
