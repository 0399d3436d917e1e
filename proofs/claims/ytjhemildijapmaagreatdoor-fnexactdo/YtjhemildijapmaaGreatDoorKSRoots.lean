import Derived.Test.YtjhemildijapmaaGreatDoorKWImpl
import Derived.Test.YtjhemildijapmaaGreatDoorKWName
namespace Go.Proofs.YtjhemildijapmaaGreatDoor
open Go.RowKit
theorem Strs.take {w : World} {a : Option Addr} {l : List ByteArray} (h : Strs w a l) (k : Nat) : Strs w a (l.take k) := by
  intro i hi
  have hi' : i < l.length := by simp at hi; omega
  have hk : i < k := by simp at hi; omega
  obtain ⟨b, o, ha, hb, hc⟩ := h i hi'
  refine ⟨b, o, ha, hb, ?_⟩
  rw [hc]
  simp [List.getD, hk]
theorem has_take {l : List ByteArray} {k : Nat} (hk : k ≤ l.length) {v : ByteArray} : Has (l.take k) v ↔ ∃ i, i < k ∧ l.getD i ByteArray.empty = v := by
  unfold Has
  constructor
  · rintro ⟨i, hi, e⟩
    have hk' : i < k := by simp at hi; omega
    exact ⟨i, hk', by rw [← e]; simp [List.getD, hk']⟩
  · rintro ⟨i, hi, e⟩
    exact ⟨i, by simp; omega, by rw [← e]; simp [List.getD, hi]⟩
theorem contains_take (w : World) (a : Option Addr) (cap k : Nat) (l : List ByteArray) (v : ByteArray) (hl : l.length ≤ maxLen) (hk : k ≤ l.length) (hS : Strs w a l) :
    Calls Tryz.prog 116 #[.slice a k cap, .string v] w fun e w' => Says e (∃ i, i < k ∧ l.getD i ByteArray.empty = v) ∧ w' = w := by
  have e : (l.take k).length = k := by simp; omega
  have := contains_any w a cap (l.take k) v (by rw [e]; omega) (hS.take k)
  rw [e] at this
  exact this.mono fun e w' ⟨h, hw⟩ => ⟨h.congr (has_take hk), hw⟩
def AsksOk (s : StepD) : Prop := s.asks.length ≤ 5 ∧ NamesOk s.asks ∧ (s.on = 0 ∨ (0 ≤ s.on ∧ s.on < s.asks.length))
def NameOkAt (l : List ByteArray) (j : Nat) : Prop := NameOk (l.getD j ByteArray.empty) ∧ ∀ m, m < j → l.getD m ByteArray.empty ≠ l.getD j ByteArray.empty
set_option maxRecDepth 100000 in
set_option maxHeartbeats 1600000 in
theorem soundAsks_any (w : World) (s : StepD) (aa ac : Option Addr) (ca cc : Nat) (hs : s.Fits) (hA : Strs w aa s.asks) (hca : s.asks.length ≤ ca) :
    Calls Tryz.prog 198 #[.agg #[.slice aa s.asks.length ca, .int .i64 s.on, .slice ac s.cases.length cc, .int .i64 s.els, .int .i64 s.fall, .bool s.fin, .bool s.bad, .string s.give]] w fun e w' => Says e (AsksOk s) ∧ Kept w w' := by
  have h1 := hs.asks
  unfold maxLen at h1
  have k0 : Kept w (w.alloc (.cells #[.slice aa s.asks.length ca, .int .i64 s.on, .slice ac s.cases.length cc, .int .i64 s.els, .int .i64 s.fall, .bool s.fin, .bool s.bad, .string s.give] 183)) := (Kept.refl _).alloc _
  by_cases a1 : (s.asks.length : Int) ≤ 5
  · go_enter Tryz.func198, Tryz.ntmps198
    go_wp2
    go_loopw [14] (fun i wr => ∃ k : Nat, k ≤ s.asks.length ∧ i = .int .i64 k ∧ Kept (w.alloc (.cells #[.slice aa s.asks.length ca, .int .i64 s.on, .slice ac s.cases.length cc, .int .i64 s.els, .int .i64 s.fall, .bool s.fin, .bool s.bad, .string s.give] 183)) wr ∧ ∀ j, j < k → NameOkAt s.asks j) (fun i _ => s.asks.length - (intOf i).toNat)
    case atStart => exact ⟨0, Nat.zero_le _, rfl, Kept.refl _, fun j hj => absurd hj (Nat.not_lt_zero _)⟩
    case round =>
      obtain ⟨k, hk, rfl, hw, hg⟩ := hrel
      have HG := hide hg
      clear hg
      have hz1 := hw.size
      simp only [World.size_alloc] at hz1
      by_cases hlt : k < s.asks.length
      · obtain ⟨b, o, rfl, hb, hc⟩ := (hA.kept k0).kept hw k hlt
        have hsz : (s.asks.getD k ByteArray.empty).size ≤ maxLen := hs.askEach _ (by simp [List.getD, hlt])
        obtain ⟨v, hvk⟩ : ∃ v, v = s.asks.getD k ByteArray.empty := ⟨_, rfl⟩
        rw [← hvk] at hc hsz
        have HVK := hide hvk
        clear hvk
        go_wp2_with fail
        refine (validName_any _ v hsz).mono ?_
        rintro e w1 ⟨hsay, hw1⟩
        have hw2 := hw.trans hw1
        have hA1 := (hA.kept k0).kept hw2
        clear hc hb
        rcases hsay.cases with ⟨rfl, hyes⟩ | ⟨rfl, hno⟩
        · have HY := hide hyes
          clear hyes hsay hw hw1
          obtain ⟨hc1, hf1⟩ := hw2.rules
          have hkc : k ≤ ca := by omega
          go_wp2_with fail
          refine (contains_take _ _ ca k s.asks v hs.asks (by omega) hA1).mono ?_
          rintro e w2 ⟨hsay, rfl⟩
          rcases hsay.cases with ⟨rfl, hyes⟩ | ⟨rfl, hno⟩
          · have HN := hide hyes
            clear hyes hsay hA1 hc1 hf1
            go_wp2
            go_ret
            exact ⟨Says.no fun h => by obtain ⟨i, hi, e⟩ := HN.out; exact (h.2.1 k hlt).2 i hi (by rw [e, HVK.out]), k0.trans hw2⟩
          · have HN := hide hno
            clear hno hsay hA1 hc1 hf1
            go_wp2
            go_roundw
            case rel =>
              refine ⟨k + 1, by omega, by go_num, hw2, fun j hj => ?_⟩
              by_cases e : j = k
              · subst e
                exact ⟨by rw [← HVK.out]; exact HY.out, fun m hm h => HN.out ⟨m, hm, by rw [h, HVK.out]⟩⟩
              · exact unhide HG j (by omega)
            case measure => simp [intOf]; omega
        · have HN := hide hno
          clear hno hsay hw hw1
          go_wp2
          go_ret
          exact ⟨Says.no fun h => HN.out (by rw [HVK.out]; exact (h.2.1 k hlt).1), k0.trans hw2⟩
      · obtain ⟨hc1, hf1⟩ := hw.rules
        have hnames : Hid (NamesOk s.asks) := fun j hj => unhide HG j (by omega)
        clear HG
        go_wp2
        · go_ret
          exact ⟨(Says.dec _).congr ⟨fun h => ⟨by omega, hnames.out, by omega⟩, fun h => by have := h.2.2; omega⟩, k0.trans hw⟩
        · go_ret
          exact ⟨(Says.dec _).congr ⟨fun h => ⟨by omega, hnames.out, by omega⟩, fun h => by have := h.2.2; omega⟩, k0.trans hw⟩
        all_goals
          go_ret
          exact ⟨Says.no fun h => by have := h.2.2; omega, k0.trans hw⟩
  · go_enter Tryz.func198, Tryz.ntmps198
    go_wp2
    go_ret
    exact ⟨Says.no fun h => by have := h.1; omega, k0⟩
def WaysOk (s : StepD) (n : Int) : Prop := s.cases.length ≤ 5 ∧ CasesOk s n ∧ (0 ≤ s.els ∧ s.els < n) ∧ (-1 ≤ s.fall ∧ s.fall < n)
set_option maxRecDepth 100000 in
set_option maxHeartbeats 1600000 in
theorem soundWays_any (w : World) (s : StepD) (aa ac : Option Addr) (ca cc : Nat) (n : Int) (hs : s.Fits) (hn : 1 ≤ n ∧ n ≤ 20) (hC : Cases w ac s.cases) :
    Calls Tryz.prog 199 #[.agg #[.slice aa s.asks.length ca, .int .i64 s.on, .slice ac s.cases.length cc, .int .i64 s.els, .int .i64 s.fall, .bool s.fin, .bool s.bad, .string s.give], .int .i64 n] w fun e w' => Says e (WaysOk s n) ∧ Kept w w' := by
  have h1 := hs.cases
  unfold maxLen at h1
  obtain ⟨hn0, hn1⟩ := hn
  have k0 : Kept w (w.alloc (.cells #[.slice aa s.asks.length ca, .int .i64 s.on, .slice ac s.cases.length cc, .int .i64 s.els, .int .i64 s.fall, .bool s.fin, .bool s.bad, .string s.give] 183)) := (Kept.refl _).alloc _
  by_cases a1 : (s.cases.length : Int) ≤ 5
  · go_enter Tryz.func199, Tryz.ntmps199
    go_wp2
    go_loopw [16] (fun i wr => ∃ k : Nat, k ≤ s.cases.length ∧ i = .int .i64 k ∧ Kept (w.alloc (.cells #[.slice aa s.asks.length ca, .int .i64 s.on, .slice ac s.cases.length cc, .int .i64 s.els, .int .i64 s.fall, .bool s.fin, .bool s.bad, .string s.give] 183)) wr ∧ ∀ j, j < k → CaseOkAt s n j) (fun i _ => s.cases.length - (intOf i).toNat)
    case atStart => exact ⟨0, Nat.zero_le _, rfl, Kept.refl _, fun j hj => absurd hj (Nat.not_lt_zero _)⟩
    case round =>
      obtain ⟨k, hk, rfl, hw, hg⟩ := hrel
      have HG := hide hg
      clear hg
      have hz1 := hw.size
      simp only [World.size_alloc] at hz1
      by_cases hlt : k < s.cases.length
      · obtain ⟨b, o, rfl, hb, hc⟩ := (hC.kept k0).kept hw k hlt
        have hce : (s.cases.getD k CaseD.zero).text.size ≤ maxLen := (hs.caseEach _ (by simp [List.getD, hlt])).1
        obtain ⟨c, hck⟩ : ∃ c, c = s.cases.getD k CaseD.zero := ⟨_, rfl⟩
        rw [← hck] at hc hce
        have HCK := hide hck
        clear hck
        unfold maxLen at hce
        have c0 := hc 0 _ rfl
        have c1 := hc 1 _ rfl
        simp only [Nat.add_zero] at c0
        clear hc
        by_cases d1 : (c.text.size : Int) ≤ 200
        · by_cases d2 : 0 ≤ c.goto
          · cases d3 : decide (c.goto < n)
            · have d3' : n ≤ c.goto := by simpa using d3
              go_wp2
              go_ret
              exact ⟨Says.no fun h => by have := h.2.1 k hlt; unfold CaseOkAt at this; rw [← HCK.out] at this; obtain ⟨q1, q2, q3⟩ := this; omega, k0.trans (hw.alloc _)⟩
            · have d3' : c.goto < n := by simpa using d3
              go_wp2
              go_roundw
              case rel =>
                refine ⟨k + 1, by omega, by go_num, hw.alloc _, fun j hj => ?_⟩
                by_cases e : j = k
                · subst e
                  unfold CaseOkAt
                  rw [← HCK.out]
                  exact ⟨by omega, by omega, by omega⟩
                · exact unhide HG j (by omega)
              case measure => simp [intOf]; omega
          · go_wp2
            go_ret
            exact ⟨Says.no fun h => by have := h.2.1 k hlt; unfold CaseOkAt at this; rw [← HCK.out] at this; obtain ⟨q1, q2, q3⟩ := this; omega, k0.trans (hw.alloc _)⟩
        · go_wp2
          go_ret
          exact ⟨Says.no fun h => by have := h.2.1 k hlt; unfold CaseOkAt at this; rw [← HCK.out] at this; obtain ⟨q1, q2, q3⟩ := this; omega, k0.trans (hw.alloc _)⟩
      · obtain ⟨hc1, hf1⟩ := hw.rules
        have hcs : Hid (CasesOk s n) := fun j hj => unhide HG j (by omega)
        clear HG
        by_cases b1 : 0 ≤ s.els
        · cases b2 : decide (s.els < n)
          · have b2' : n ≤ s.els := by simpa using b2
            go_wp2
            go_ret
            exact ⟨Says.no fun h => by have := h.2.2; omega, k0.trans hw⟩
          · have b2' : s.els < n := by simpa using b2
            cases b3 : (s.fall == -1)
            · by_cases b4 : 0 ≤ s.fall
              · cases b5 : decide (s.fall < n)
                · have b5' : n ≤ s.fall := by simpa using b5
                  go_wp2
                  go_ret
                  exact ⟨Says.no fun h => by have := h.2.2; omega, k0.trans hw⟩
                · have b5' : s.fall < n := by simpa using b5
                  go_wp2
                  go_ret
                  exact ⟨Says.yes ⟨by omega, hcs.out, ⟨by omega, by omega⟩, ⟨by omega, by omega⟩⟩, k0.trans hw⟩
              · go_wp2
                go_ret
                exact ⟨Says.no fun h => by have := h.2.2; simp at b3; omega, k0.trans hw⟩
            · go_wp2
              go_ret
              exact ⟨Says.yes ⟨by omega, hcs.out, ⟨by omega, by omega⟩, by simp at b3; omega⟩, k0.trans hw⟩
        · go_wp2
          go_ret
          exact ⟨Says.no fun h => by have := h.2.2; omega, k0.trans hw⟩
  · go_enter Tryz.func199, Tryz.ntmps199
    go_wp2
    go_ret
    exact ⟨Says.no fun h => by have := h.1; omega, k0⟩
set_option maxRecDepth 100000 in
set_option maxHeartbeats 800000 in
theorem questionSound_any (w : World) (s : StepD) (aa ac : Option Addr) (ca cc : Nat) (n : Int) (hs : s.Fits) (hn : 1 ≤ n ∧ n ≤ 20) (hA : Strs w aa s.asks) (hC : Cases w ac s.cases) (hca : s.asks.length ≤ ca) :
    Calls Tryz.prog 197 #[.agg #[.slice aa s.asks.length ca, .int .i64 s.on, .slice ac s.cases.length cc, .int .i64 s.els, .int .i64 s.fall, .bool s.fin, .bool s.bad, .string s.give], .int .i64 n] w fun e w' => Says e (AskOk s n) ∧ Kept w w' := by
  have k0 : Kept w (w.alloc (.cells #[.slice aa s.asks.length ca, .int .i64 s.on, .slice ac s.cases.length cc, .int .i64 s.els, .int .i64 s.fall, .bool s.fin, .bool s.bad, .string s.give] 183)) := (Kept.refl _).alloc _
  have hgive := empty_iff s.give
  have HGV := hide hgive
  clear hgive
  cases hbad : s.bad
  · rw [hbad] at k0
    cases hg : s.give.toList.isEmpty
    · go_enter Tryz.func197, Tryz.ntmps197
      go_wp2
      go_ret
      exact ⟨Says.no fun h => by have := HGV.out.2 h.1.2.1; simp [this] at hg, k0⟩
    · have HE : Hid (s.give.size = 0) := HGV.out.1 (List.isEmpty_iff.1 hg)
      go_enter Tryz.func197, Tryz.ntmps197
      go_wp2_with fail
      have hask := soundAsks_any (w.alloc (.cells #[.slice aa s.asks.length ca, .int .i64 s.on, .slice ac s.cases.length cc, .int .i64 s.els, .int .i64 s.fall, .bool s.fin, .bool s.bad, .string s.give] 183)) s aa ac ca cc hs (hA.kept ((Kept.refl _).alloc _)) hca
      rw [hbad] at hask
      refine hask.mono ?_
      clear hask
      rintro e w1 ⟨hsay, k1⟩
      have k2 := k0.trans k1
      rcases hsay.cases with ⟨rfl, hyes⟩ | ⟨rfl, hno⟩
      · have HY := hide hyes
        clear hyes hsay
        obtain ⟨hc1, hf1⟩ := k1.rules
        have hz1 := k1.size
        simp only [World.size_alloc] at hz1
        clear k0 k1
        have hz : w.heap.size < w1.heap.size := by omega
        go_wp2_with fail
        have hways := soundWays_any w1 s aa ac ca cc n hs hn (hC.kept k2)
        rw [hbad] at hways
        refine hways.mono ?_
        clear hways
        rintro e w2 ⟨hsay, k3⟩
        have k4 := k2.trans k3
        rcases hsay.cases with ⟨rfl, hyes⟩ | ⟨rfl, hno⟩
        · have HW := hide hyes
          clear hyes hsay hc1 hf1
          go_wp2
          go_ret
          exact ⟨Says.yes ⟨⟨hbad, HE.out, HY.out.1, HY.out.2.1, HW.out.1, HW.out.2.2.1, HW.out.2.2.2, HY.out.2.2⟩, HW.out.2.1⟩, k4⟩
        · have HW := hide hno
          clear hno hsay hc1 hf1
          go_wp2
          go_ret
          exact ⟨Says.no fun h => HW.out ⟨h.1.2.2.2.2.1, h.2, h.1.2.2.2.2.2.1, h.1.2.2.2.2.2.2.1⟩, k4⟩
      · have HW := hide hno
        clear hno hsay k0 k1
        go_wp2
        go_ret
        exact ⟨Says.no fun h => HW.out ⟨h.1.2.2.1, h.1.2.2.2.1, h.1.2.2.2.2.2.2.2⟩, k2⟩
  · go_enter Tryz.func197, Tryz.ntmps197
    go_wp2
    go_ret
    exact ⟨Says.no fun h => by have := h.1.1; simp [hbad] at this, (Kept.refl _).alloc _⟩
theorem goodSound_any (w : World) (s : StepD) (aa ac : Option Addr) (ca cc : Nat) (n : Int) (hs : s.Fits) :
    Calls Tryz.prog 201 #[.agg #[.slice aa s.asks.length ca, .int .i64 s.on, .slice ac s.cases.length cc, .int .i64 s.els, .int .i64 s.fall, .bool s.fin, .bool s.bad, .string s.give], .int .i64 n] w fun e w' => Says e (EndOk s) ∧ Kept w w' := by
  have k0 : Kept w (w.alloc (.cells #[.slice aa s.asks.length ca, .int .i64 s.on, .slice ac s.cases.length cc, .int .i64 s.els, .int .i64 s.fall, .bool s.fin, .bool s.bad, .string s.give] 185)) := (Kept.refl _).alloc _
  go_enter Tryz.func201, Tryz.ntmps201
  go_wp2_with fail
  refine (soundEnd_any _ s.asks.length s.on s.cases.length s.els s.fall s.fin s.bad s.give aa ac ca cc hs.asks hs.cases hs.give).mono ?_
  rintro e w1 ⟨⟨r, rfl, hr⟩, k1⟩
  have HR := hide hr
  have k2 := k0.trans k1
  clear hr k0 k1
  go_wp2
  go_ret
  exact ⟨⟨r, rfl, HR.out⟩, k2⟩
theorem badSound_any (w : World) (s : StepD) (aa ac : Option Addr) (ca cc : Nat) (n : Int) (hs : s.Fits) :
    Calls Tryz.prog 203 #[.agg #[.slice aa s.asks.length ca, .int .i64 s.on, .slice ac s.cases.length cc, .int .i64 s.els, .int .i64 s.fall, .bool s.fin, .bool s.bad, .string s.give], .int .i64 n] w fun e w' => Says e (EndOk s) ∧ Kept w w' := by
  have k0 : Kept w (w.alloc (.cells #[.slice aa s.asks.length ca, .int .i64 s.on, .slice ac s.cases.length cc, .int .i64 s.els, .int .i64 s.fall, .bool s.fin, .bool s.bad, .string s.give] 186)) := (Kept.refl _).alloc _
  go_enter Tryz.func203, Tryz.ntmps203
  go_wp2_with fail
  refine (soundEnd_any _ s.asks.length s.on s.cases.length s.els s.fall s.fin s.bad s.give aa ac ca cc hs.asks hs.cases hs.give).mono ?_
  rintro e w1 ⟨⟨r, rfl, hr⟩, k1⟩
  have HR := hide hr
  have k2 := k0.trans k1
  clear hr k0 k1
  go_wp2
  go_ret
  exact ⟨⟨r, rfl, HR.out⟩, k2⟩
set_option maxHeartbeats 800000 in
theorem kindOf_ask (w : World) (s : StepD) (aa ac : Option Addr) (ca cc : Nat) :
    Calls Tryz.prog 95 #[.agg #[.slice aa s.asks.length ca, .int .i64 s.on, .slice ac s.cases.length cc, .int .i64 s.els, .int .i64 s.fall, .bool false, .bool s.bad, .string s.give]] w fun e w' => e = .returned (.iface 183 (.agg #[.slice aa s.asks.length ca, .int .i64 s.on, .slice ac s.cases.length cc, .int .i64 s.els, .int .i64 s.fall, .bool false, .bool s.bad, .string s.give])) ∧ Kept w w' := by
  go_enter Tryz.func95, Tryz.ntmps95
  go_wp2
  go_ret
  exact ⟨rfl, (Kept.refl _).alloc _⟩
set_option maxHeartbeats 800000 in
theorem kindOf_bad (w : World) (s : StepD) (aa ac : Option Addr) (ca cc : Nat) :
    Calls Tryz.prog 95 #[.agg #[.slice aa s.asks.length ca, .int .i64 s.on, .slice ac s.cases.length cc, .int .i64 s.els, .int .i64 s.fall, .bool true, .bool true, .string s.give]] w fun e w' => e = .returned (.iface 186 (.agg #[.slice aa s.asks.length ca, .int .i64 s.on, .slice ac s.cases.length cc, .int .i64 s.els, .int .i64 s.fall, .bool true, .bool true, .string s.give])) ∧ Kept w w' := by
  go_enter Tryz.func95, Tryz.ntmps95
  go_wp2
  go_ret
  exact ⟨rfl, (Kept.refl _).alloc _⟩
set_option maxHeartbeats 800000 in
theorem kindOf_good (w : World) (s : StepD) (aa ac : Option Addr) (ca cc : Nat) :
    Calls Tryz.prog 95 #[.agg #[.slice aa s.asks.length ca, .int .i64 s.on, .slice ac s.cases.length cc, .int .i64 s.els, .int .i64 s.fall, .bool true, .bool false, .string s.give]] w fun e w' => e = .returned (.iface 185 (.agg #[.slice aa s.asks.length ca, .int .i64 s.on, .slice ac s.cases.length cc, .int .i64 s.els, .int .i64 s.fall, .bool true, .bool false, .string s.give])) ∧ Kept w w' := by
  go_enter Tryz.func95, Tryz.ntmps95
  go_wp2
  go_ret
  exact ⟨rfl, (Kept.refl _).alloc _⟩
theorem ta_qq (vs : Array Value) (W : World) : (Instr.typeAssert (.iface 183 (.agg vs)) 156 183 true).run Tryz.prog W = .ok (.tuple #[.agg vs, .bool true]) W := by kernel_rfl
set_option maxRecDepth 100000 in
set_option maxHeartbeats 800000 in
theorem follow_ask (w : World) (s : StepD) (hfin : s.fin = false) (aa ac a : Option Addr) (ca cc cap : Nat) (ans : List AnswerD) (hs : s.Fits) (hA : Strs w aa s.asks) (hC : Cases w ac s.cases) (hl : ans.length ≤ maxLen) (hal : ∀ c ∈ ans, c.text.size ≤ maxLen) (hS : Answers w a ans)
    (hon : s.asks.length ≠ 0 → 0 ≤ s.on ∧ s.on < s.asks.length) (h20 : ∀ i, i < s.asks.length → (s.asks.getD i ByteArray.empty).size ≤ 20) :
    Calls Tryz.prog 94 #[.iface 183 (.agg #[.slice aa s.asks.length ca, .int .i64 s.on, .slice ac s.cases.length cc, .int .i64 s.els, .int .i64 s.fall, .bool false, .bool s.bad, .string s.give]), .slice a ans.length cap] w fun e w' => (∃ g, e = .returned (.agg g.cells.toArray) ∧ Followed s ans g) ∧ Kept w w' := by
  have hq : ∀ W, Kept w W → Calls Tryz.prog 125 #[.agg #[.slice aa s.asks.length ca, .int .i64 s.on, .slice ac s.cases.length cc, .int .i64 s.els, .int .i64 s.fall, .bool false, .bool s.bad, .string s.give], .slice a ans.length cap] W fun e w' => (∃ g, e = .returned (.agg g.cells.toArray) ∧ Followed s ans g) ∧ Kept W w' := fun W hW => by
    have h := qfollow_any W s aa ac a ca cc cap ans hs (hA.kept hW) (hC.kept hW) hl hal (hS.kept hW) hon h20
    rw [hfin] at h
    exact h
  have HQ := hide hq
  clear hq hon h20
  have t1 := ta_qq
  go_enter Tryz.func94, Tryz.ntmps94
  go_wp2_with fail
  refine (unhide HQ _ (by repeat (first | apply Kept.alloc | exact Kept.refl _))).mono ?_
  rintro e w1 ⟨⟨g, rfl, hg⟩, k1⟩
  have hrow1 : Row w1 w.heap.size 4 := Row.kept (Row.alloc (by have := Row.made w #[.int .i64 0, .bool false, .int .i64 0, .string ⟨#[]⟩] 141; simpa using this) _) k1
  have K1 : Kept w w1 := Kept.trans (by repeat (first | apply Kept.alloc | exact Kept.refl _)) k1
  obtain ⟨c, o, t, x⟩ := g
  have HG := hide hg
  have HROW := hide hrow1
  clear hg hrow1
  obtain ⟨hc1, hf1⟩ := k1.rules
  have hz1 := k1.size
  simp only [World.size_alloc] at hz1
  clear k1
  have hcells : (GoneD.mk c o t x).cells.toArray = #[.int .i64 c, .bool o, .int .i64 t, .string x] := rfl
  rw [hcells]
  clear hcells
  go_wp2
  have hR := World.rangeAt_setCells_same w1 w.heap.size 0 (GoneD.mk c o t x).cells (HROW.out.there (o := 0) (m := 4) (Nat.le_refl _))
  exact bodyPost_ret_cell (GoneD.mk c o t x).cells _ Tryz.results94 rfl hR Tryz.underlying141 rfl Tryz.sizeGone rfl ⟨⟨_, rfl, HG.out⟩, Kept.setCells (g := w.heap.size) (by omega) (GoneD.mk c o t x).cells 0 K1⟩
def RootsOk (l : List ByteArray) : Prop := 1 ≤ l.length ∧ l.length ≤ 10 ∧ NamesOk l
theorem l1In_no (w : World) (n lo hi : Int) (h : n < lo ∨ hi < n) :
    Calls Tryz.prog 73 #[.int .i64 n, .int .i64 lo, .int .i64 hi] w fun e w' => e = .returned (.bool false) ∧ w' = w := by
  by_cases h1 : lo ≤ n
  · have h2 : ¬ n ≤ hi := by omega
    go_enter Tryz.func73, Tryz.ntmps73
    go_wp2
    go_ret
    exact ⟨rfl, rfl⟩
  · go_enter Tryz.func73, Tryz.ntmps73
    go_wp2
    go_ret
    exact ⟨rfl, rfl⟩
set_option maxHeartbeats 800000 in
theorem l3RootsOk_any (w : World) (a : Option Addr) (cap : Nat) (l : List ByteArray) (hl : l.length ≤ maxLen) (hs : ∀ s ∈ l, s.size ≤ maxLen) (hS : Strs w a l) :
    Calls Tryz.prog 39 #[.slice a l.length cap] w fun e w' => Says e (RootsOk l) ∧ Kept w w' := by
  by_cases h : 1 ≤ l.length ∧ l.length ≤ 10
  · go_enter Tryz.func39, Tryz.ntmps39
    go_wp2_with (go_at_call 73; refine (l1In_yes _ _ _ _ (by omega) (by omega)).mono ?_; rintro e w' ⟨rfl, rfl⟩)
    refine (l1Names_any _ a cap l hl hs hS).mono ?_
    rintro e w1 ⟨hsay, k1⟩
    rcases hsay.cases with ⟨rfl, hyes⟩ | ⟨rfl, hno⟩
    · have HY := hide hyes
      clear hyes hsay
      go_wp2
      go_ret
      exact ⟨Says.yes ⟨h.1, h.2, HY.out⟩, k1⟩
    · have HY := hide hno
      clear hno hsay
      go_wp2
      go_ret
      exact ⟨Says.no fun g => HY.out g.2.2, k1⟩
  · go_enter Tryz.func39, Tryz.ntmps39
    go_wp2_with (go_at_call 73; refine (l1In_no _ _ _ _ (by omega)).mono ?_; rintro e w' ⟨rfl, rfl⟩)
    go_ret
    exact ⟨Says.no fun g => h ⟨g.1, g.2.1⟩, Kept.refl _⟩
set_option maxRecDepth 100000 in
set_option maxHeartbeats 1600000 in
theorem validRoots_any (w : World) (a : Option Addr) (cap : Nat) (l : List ByteArray) (hl : l.length ≤ maxLen) (hcap : l.length ≤ cap) (hs : ∀ s ∈ l, s.size ≤ maxLen) (hS : Strs w a l) :
    Calls Tryz.prog 86 #[.slice a l.length cap] w fun e w' => Says e (RootsOk l) ∧ Kept w w' := by
  have hl' := hl
  unfold maxLen at hl'
  by_cases h1 : (l.length : Int) < 1
  · go_enter Tryz.func86, Tryz.ntmps86
    go_wp2
    go_ret
    exact ⟨Says.no fun g => by have := g.1; omega, Kept.refl _⟩
  · by_cases h2 : (10 : Int) < l.length
    · go_enter Tryz.func86, Tryz.ntmps86
      go_wp2
      go_ret
      exact ⟨Says.no fun g => by have := g.2.1; omega, Kept.refl _⟩
    · have hb1 : decide ((l.length : Int) < 1) = false := by simpa using h1
      have hb2 : decide ((10 : Int) < l.length) = false := by simpa using h2
      go_enter Tryz.func86, Tryz.ntmps86
      go_wp2
      clear hb1 hb2
      go_loopw [15] (fun i wr => ∃ k : Nat, k ≤ l.length ∧ i = .int .i64 k ∧ Kept w wr ∧ ∀ j, j < k → NameOkAt l j) (fun i _ => l.length - (intOf i).toNat)
      case atStart => exact ⟨0, Nat.zero_le _, rfl, Kept.refl _, fun j hj => absurd hj (Nat.not_lt_zero _)⟩
      case round =>
        obtain ⟨k, hk, rfl, hw, hg⟩ := hrel
        have HG := hide hg
        clear hg
        by_cases hlt : k < l.length
        · obtain ⟨b, o, rfl, hb, hc⟩ := hS.kept hw k hlt
          have hsz : (l.getD k ByteArray.empty).size ≤ maxLen := hs _ (by simp [List.getD, hlt])
          obtain ⟨v, hvk⟩ : ∃ v, v = l.getD k ByteArray.empty := ⟨_, rfl⟩
          rw [← hvk] at hc hsz
          have HVK := hide hvk
          clear hvk
          go_wp2_with fail
          refine (validName_any _ v hsz).mono ?_
          rintro e w1 ⟨hsay, hw1⟩
          have hw2 := hw.trans hw1
          have hA1 := hS.kept hw2
          clear hc hb
          rcases hsay.cases with ⟨rfl, hyes⟩ | ⟨rfl, hno⟩
          · have HY := hide hyes
            clear hyes hsay hw hw1
            have hkc : k ≤ cap := by omega
            go_wp2_with fail
            refine (contains_take _ _ cap k l v hl (by omega) hA1).mono ?_
            rintro e w2 ⟨hsay, rfl⟩
            rcases hsay.cases with ⟨rfl, hyes⟩ | ⟨rfl, hno⟩
            · have HN := hide hyes
              clear hyes hsay hA1
              go_wp2
              go_ret
              exact ⟨Says.no fun h => by obtain ⟨i, hi, e⟩ := HN.out; exact (h.2.2 k hlt).2 i hi (by rw [e, HVK.out]), hw2⟩
            · have HN := hide hno
              clear hno hsay hA1
              go_wp2
              go_roundw
              case rel =>
                refine ⟨k + 1, by omega, by go_num, hw2, fun j hj => ?_⟩
                by_cases e : j = k
                · subst e
                  exact ⟨by rw [← HVK.out]; exact HY.out, fun m hm h => HN.out ⟨m, hm, by rw [h, HVK.out]⟩⟩
                · exact unhide HG j (by omega)
              case measure => simp [intOf]; omega
          · have HN := hide hno
            clear hno hsay hw hw1
            go_wp2
            go_ret
            exact ⟨Says.no fun h => HN.out (by rw [HVK.out]; exact (h.2.2 k hlt).1), hw2⟩
        · go_wp2
          go_ret
          exact ⟨Says.yes ⟨by omega, by omega, fun j hj => unhide HG j (by omega)⟩, hw⟩
end Go.Proofs.YtjhemildijapmaaGreatDoor
