import Derived.Test.YtpnofnbppnkgaaaGreatDoorKWImpl2
import Derived.Test.YtpnofnbppnkgaaaGreatDoorKWImpl3
import Derived.Test.YtpnofnbppnkgaaaGreatDoorKWName

namespace Go.Proofs.YtpnofnbppnkgaaaGreatDoor
open Go.RowKit

set_option maxRecDepth 100000 in
set_option maxHeartbeats 800000 in
theorem questionSound_any (w : World) (s : StepD) (aa ac : Option Addr) (ca cc : Nat) (n : Int) (hs : s.Fits) (hn : 1 ≤ n ∧ n ≤ 20) (hA : Strs w aa s.asks) (hC : Cases w ac s.cases) (hca : s.asks.length ≤ ca) :
    Calls Tryz.prog 112 #[.agg #[.slice aa s.asks.length ca, .int .i64 s.on, .slice ac s.cases.length cc, .int .i64 s.els, .int .i64 s.fall, .bool s.fin, .bool s.bad, .string s.give], .int .i64 n] w fun e w' => Says e (AskOk s n) ∧ Kept w w' := by
  have k0 : Kept w (w.alloc (.cells #[.slice aa s.asks.length ca, .int .i64 s.on, .slice ac s.cases.length cc, .int .i64 s.els, .int .i64 s.fall, .bool s.fin, .bool s.bad, .string s.give] 99)) := (Kept.refl _).alloc _
  have hgive := empty_iff s.give
  have HGV := hide hgive
  clear hgive
  cases hbad : s.bad
  · rw [hbad] at k0
    cases hg : s.give.toList.isEmpty
    · go_enter Tryz.func112, Tryz.ntmps112
      go_wp2
      go_ret
      exact ⟨Says.no fun h => by have := HGV.out.2 h.1.2.1; simp [this] at hg, k0⟩
    · have HE : Hid (s.give.size = 0) := HGV.out.1 (List.isEmpty_iff.1 hg)
      go_enter Tryz.func112, Tryz.ntmps112
      go_wp2_with fail
      have hask := soundAsks_any (w.alloc (.cells #[.slice aa s.asks.length ca, .int .i64 s.on, .slice ac s.cases.length cc, .int .i64 s.els, .int .i64 s.fall, .bool s.fin, .bool s.bad, .string s.give] 99)) s aa ac ca cc hs (hA.kept ((Kept.refl _).alloc _)) hca
      rw [hbad] at hask
      refine hask.mono ?_
      clear hask
      rintro e w1 ⟨hsay, k1⟩
      have k2 := k0.trans k1
      rcases hsay.cases with ⟨rfl, hyes⟩ | ⟨rfl, hno⟩
      · have HY := hide hyes
        clear hyes hsay
        obtain ⟨hc1, hf1⟩ := k1.rules
        have hz1 := k1.size
        simp only [World.size_alloc] at hz1
        clear k0 k1
        have hz : w.heap.size < w1.heap.size := by omega
        go_wp2_with fail
        have hways := soundWays_any w1 s aa ac ca cc n hs hn (hC.kept k2)
        rw [hbad] at hways
        refine hways.mono ?_
        clear hways
        rintro e w2 ⟨hsay, k3⟩
        have k4 := k2.trans k3
        rcases hsay.cases with ⟨rfl, hyes⟩ | ⟨rfl, hno⟩
        · have HW := hide hyes
          clear hyes hsay hc1 hf1
          go_wp2
          go_ret
          exact ⟨Says.yes ⟨⟨hbad, HE.out, HY.out.1, HY.out.2.1, HW.out.1, HW.out.2.2.1, HW.out.2.2.2, HY.out.2.2⟩, HW.out.2.1⟩, k4⟩
        · have HW := hide hno
          clear hno hsay hc1 hf1
          go_wp2
          go_ret
          exact ⟨Says.no fun h => HW.out ⟨h.1.2.2.2.2.1, h.2, h.1.2.2.2.2.2.1, h.1.2.2.2.2.2.2.1⟩, k4⟩
      · have HW := hide hno
        clear hno hsay k0 k1
        go_wp2
        go_ret
        exact ⟨Says.no fun h => HW.out ⟨h.1.2.2.1, h.1.2.2.2.1, h.1.2.2.2.2.2.2.2⟩, k2⟩
  · go_enter Tryz.func112, Tryz.ntmps112
    go_wp2
    go_ret
    exact ⟨Says.no fun h => by have := h.1.1; simp [hbad] at this, (Kept.refl _).alloc _⟩

theorem goodSound_any (w : World) (s : StepD) (aa ac : Option Addr) (ca cc : Nat) (n : Int) (hs : s.Fits) :
    Calls Tryz.prog 109 #[.agg #[.slice aa s.asks.length ca, .int .i64 s.on, .slice ac s.cases.length cc, .int .i64 s.els, .int .i64 s.fall, .bool s.fin, .bool s.bad, .string s.give], .int .i64 n] w fun e w' => Says e (EndOk s) ∧ Kept w w' := by
  have k0 : Kept w (w.alloc (.cells #[.slice aa s.asks.length ca, .int .i64 s.on, .slice ac s.cases.length cc, .int .i64 s.els, .int .i64 s.fall, .bool s.fin, .bool s.bad, .string s.give] 97)) := (Kept.refl _).alloc _
  go_enter Tryz.func109, Tryz.ntmps109
  go_wp2_with fail
  refine (soundEnd_any _ s.asks.length s.on s.cases.length s.els s.fall s.fin s.bad s.give aa ac ca cc hs.asks hs.cases hs.give).mono ?_
  rintro e w1 ⟨⟨r, rfl, hr⟩, k1⟩
  have HR := hide hr
  have k2 := k0.trans k1
  clear hr k0 k1
  go_wp2
  go_ret
  exact ⟨⟨r, rfl, HR.out⟩, k2⟩

theorem badSound_any (w : World) (s : StepD) (aa ac : Option Addr) (ca cc : Nat) (n : Int) (hs : s.Fits) :
    Calls Tryz.prog 111 #[.agg #[.slice aa s.asks.length ca, .int .i64 s.on, .slice ac s.cases.length cc, .int .i64 s.els, .int .i64 s.fall, .bool s.fin, .bool s.bad, .string s.give], .int .i64 n] w fun e w' => Says e (EndOk s) ∧ Kept w w' := by
  have k0 : Kept w (w.alloc (.cells #[.slice aa s.asks.length ca, .int .i64 s.on, .slice ac s.cases.length cc, .int .i64 s.els, .int .i64 s.fall, .bool s.fin, .bool s.bad, .string s.give] 98)) := (Kept.refl _).alloc _
  go_enter Tryz.func111, Tryz.ntmps111
  go_wp2_with fail
  refine (soundEnd_any _ s.asks.length s.on s.cases.length s.els s.fall s.fin s.bad s.give aa ac ca cc hs.asks hs.cases hs.give).mono ?_
  rintro e w1 ⟨⟨r, rfl, hr⟩, k1⟩
  have HR := hide hr
  have k2 := k0.trans k1
  clear hr k0 k1
  go_wp2
  go_ret
  exact ⟨⟨r, rfl, HR.out⟩, k2⟩

set_option maxHeartbeats 800000 in
theorem kindOf_ask (w : World) (s : StepD) (aa ac : Option Addr) (ca cc : Nat) :
    Calls Tryz.prog 33 #[.agg #[.slice aa s.asks.length ca, .int .i64 s.on, .slice ac s.cases.length cc, .int .i64 s.els, .int .i64 s.fall, .bool false, .bool s.bad, .string s.give]] w fun e w' => e = .returned (.iface 99 (.agg #[.slice aa s.asks.length ca, .int .i64 s.on, .slice ac s.cases.length cc, .int .i64 s.els, .int .i64 s.fall, .bool false, .bool s.bad, .string s.give])) ∧ Kept w w' := by
  go_enter Tryz.func33, Tryz.ntmps33
  go_wp2
  go_ret
  exact ⟨rfl, (Kept.refl _).alloc _⟩

set_option maxHeartbeats 800000 in
theorem kindOf_bad (w : World) (s : StepD) (aa ac : Option Addr) (ca cc : Nat) :
    Calls Tryz.prog 33 #[.agg #[.slice aa s.asks.length ca, .int .i64 s.on, .slice ac s.cases.length cc, .int .i64 s.els, .int .i64 s.fall, .bool true, .bool true, .string s.give]] w fun e w' => e = .returned (.iface 98 (.agg #[.slice aa s.asks.length ca, .int .i64 s.on, .slice ac s.cases.length cc, .int .i64 s.els, .int .i64 s.fall, .bool true, .bool true, .string s.give])) ∧ Kept w w' := by
  go_enter Tryz.func33, Tryz.ntmps33
  go_wp2
  go_ret
  exact ⟨rfl, (Kept.refl _).alloc _⟩

set_option maxHeartbeats 800000 in
theorem kindOf_good (w : World) (s : StepD) (aa ac : Option Addr) (ca cc : Nat) :
    Calls Tryz.prog 33 #[.agg #[.slice aa s.asks.length ca, .int .i64 s.on, .slice ac s.cases.length cc, .int .i64 s.els, .int .i64 s.fall, .bool true, .bool false, .string s.give]] w fun e w' => e = .returned (.iface 97 (.agg #[.slice aa s.asks.length ca, .int .i64 s.on, .slice ac s.cases.length cc, .int .i64 s.els, .int .i64 s.fall, .bool true, .bool false, .string s.give])) ∧ Kept w w' := by
  go_enter Tryz.func33, Tryz.ntmps33
  go_wp2
  go_ret
  exact ⟨rfl, (Kept.refl _).alloc _⟩

end Go.Proofs.YtpnofnbppnkgaaaGreatDoor

namespace Go.Proofs.YtpnofnbppnkgaaaGreatDoor
open Go.RowKit

set_option maxHeartbeats 800000 in
theorem l1Names_any (w : World) (a : Option Addr) (cap : Nat) (l : List ByteArray) (hl : l.length ≤ maxLen) (hs : ∀ s ∈ l, s.size ≤ maxLen) (hS : Strs w a l) :
    Calls Tryz.prog 51 #[.slice a l.length cap] w fun e w' => Says e (NamesOk l) ∧ Kept w w' := by
  unfold maxLen at hl
  go_enter Tryz.func51, Tryz.ntmps51
  go_wp2
  go_loopw [3] (fun i wr => ∃ k : Nat, k ≤ l.length ∧ i = .int .i64 k ∧ Kept w wr ∧ ∀ j, j < k → NameOk (l.getD j ByteArray.empty) ∧ ∀ m, m < j → l.getD m ByteArray.empty ≠ l.getD j ByteArray.empty) (fun i _ => l.length - (intOf i).toNat)
  case atStart => exact ⟨0, Nat.zero_le _, rfl, Kept.refl _, fun j hj => absurd hj (Nat.not_lt_zero _)⟩
  case round =>
    obtain ⟨k, hk, rfl, hw, hg⟩ := hrel
    have HG := hide hg
    clear hg
    by_cases hlt : k < l.length
    · obtain ⟨b, o, rfl, hb, hc⟩ := hS.kept hw k hlt
      have hsz : (l.getD k ByteArray.empty).size ≤ maxLen := hs _ (by simp [List.getD, hlt])
      obtain ⟨s, hsk⟩ : ∃ s, s = l.getD k ByteArray.empty := ⟨_, rfl⟩
      rw [← hsk] at hc hsz
      have HSK := hide hsk
      clear hsk
      go_wp2_with fail
      refine (l1NameOk_any _ s hsz).mono ?_
      rintro e w1 ⟨hsay, rfl⟩
      rcases hsay.cases with ⟨rfl, hyes⟩ | ⟨rfl, hno⟩
      · have HY := hide hyes
        clear hyes hsay
        go_wp2
        clear hc
        go_loopw [4] (fun m wr => ∃ q : Nat, q ≤ k ∧ m = .int .i64 q ∧ Kept w wr ∧ ∀ t, t < q → l.getD t ByteArray.empty ≠ s) (fun m _ => k - (intOf m).toNat)
        case atStart => exact ⟨0, Nat.zero_le _, rfl, hw, fun j hj => absurd hj (Nat.not_lt_zero _)⟩
        case round =>
          obtain ⟨q, hq, rfl, hw2, hd⟩ := hrel
          have HD := hide hd
          clear hd hw
          by_cases hqlt : q < k
          · obtain ⟨b', o', e1, hb', hc'⟩ := hS.kept hw2 k hlt
            simp only [Option.some.injEq, Addr.mk.injEq, and_true] at e1
            obtain ⟨rfl, rfl⟩ := e1
            obtain ⟨b', o', e1, hb'', hd'⟩ := hS.kept hw2 q (by omega)
            simp only [Option.some.injEq, Addr.mk.injEq, and_true] at e1
            obtain ⟨rfl, rfl⟩ := e1
            rw [← HSK.out] at hc'
            obtain ⟨t, htk⟩ : ∃ t, t = l.getD q ByteArray.empty := ⟨_, rfl⟩
            rw [← htk] at hd'
            have HTK := hide htk
            clear htk
            cases hts : (t.toList == s.toList)
            · go_wp2
              go_region
              all_goals
                go_wp2
                go_roundw
                case rel =>
                  refine ⟨q + 1, by omega, by go_num, by repeat (first | apply Kept.drew | exact hw2), fun j hj => ?_⟩
                  by_cases e : j = q
                  · subst e
                    rw [← HTK.out]
                    exact bytes_ne hts
                  · exact unhide HD j (by omega)
                case measure => simp [intOf]; omega
            · go_wp2
              go_region
              all_goals
                go_wp2
                go_ret
                exact ⟨Says.no fun h => (h k hlt).2 q hqlt (by rw [← HTK.out, ← HSK.out]; exact bytes_eq.1 hts), by repeat (first | apply Kept.drew | exact hw2)⟩
          · go_wp2
            go_roundw
            case rel =>
              refine ⟨k + 1, by omega, by go_num, hw2, fun j hj => ?_⟩
              by_cases e : j = k
              · subst e
                rw [← HSK.out]
                exact ⟨HY.out, fun m hm => unhide HD m (by omega)⟩
              · exact unhide HG j (by omega)
            case measure => simp [intOf]; omega
      · go_wp2
        go_ret
        exact ⟨Says.no fun h => hno (by rw [HSK.out]; exact (h k hlt).1), hw⟩
    · go_wp2
      go_ret
      exact ⟨Says.yes fun j hj => unhide HG j (by omega), hw⟩

end Go.Proofs.YtpnofnbppnkgaaaGreatDoor
