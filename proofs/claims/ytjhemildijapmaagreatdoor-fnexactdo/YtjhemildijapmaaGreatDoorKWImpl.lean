import Derived.Test.YtjhemildijapmaaGreatDoorKWName
namespace Go.Proofs.YtjhemildijapmaaGreatDoor
open Go.RowKit
set_option maxHeartbeats 800000 in
theorem l1Names_any (w : World) (a : Option Addr) (cap : Nat) (l : List ByteArray) (hl : l.length ≤ maxLen) (hs : ∀ s ∈ l, s.size ≤ maxLen) (hS : Strs w a l) :
    Calls Tryz.prog 74 #[.slice a l.length cap] w fun e w' => Says e (NamesOk l) ∧ Kept w w' := by
  unfold maxLen at hl
  go_enter Tryz.func74, Tryz.ntmps74
  go_wp2
  go_loopw [3] (fun i wr => ∃ k : Nat, k ≤ l.length ∧ i = .int .i64 k ∧ Kept w wr ∧ ∀ j, j < k → NameOk (l.getD j ByteArray.empty) ∧ ∀ m, m < j → l.getD m ByteArray.empty ≠ l.getD j ByteArray.empty) (fun i _ => l.length - (intOf i).toNat)
  case atStart => exact ⟨0, Nat.zero_le _, rfl, Kept.refl _, fun j hj => absurd hj (Nat.not_lt_zero _)⟩
  case round =>
    obtain ⟨k, hk, rfl, hw, hg⟩ := hrel
    have HG := hide hg
    clear hg
    by_cases hlt : k < l.length
    · obtain ⟨b, o, rfl, hb, hc⟩ := hS.kept hw k hlt
      have hsz : (l.getD k ByteArray.empty).size ≤ maxLen := hs _ (by simp [List.getD, hlt])
      obtain ⟨s, hsk⟩ : ∃ s, s = l.getD k ByteArray.empty := ⟨_, rfl⟩
      rw [← hsk] at hc hsz
      have HSK := hide hsk
      clear hsk
      go_wp2_with fail
      refine (l1NameOk_any _ s hsz).mono ?_
      rintro e w1 ⟨hsay, rfl⟩
      rcases hsay.cases with ⟨rfl, hyes⟩ | ⟨rfl, hno⟩
      · have HY := hide hyes
        clear hyes hsay
        go_wp2
        clear hc
        go_loopw [4] (fun m wr => ∃ q : Nat, q ≤ k ∧ m = .int .i64 q ∧ Kept w wr ∧ ∀ t, t < q → l.getD t ByteArray.empty ≠ s) (fun m _ => k - (intOf m).toNat)
        case atStart => exact ⟨0, Nat.zero_le _, rfl, hw, fun j hj => absurd hj (Nat.not_lt_zero _)⟩
        case round =>
          obtain ⟨q, hq, rfl, hw2, hd⟩ := hrel
          have HD := hide hd
          clear hd hw
          by_cases hqlt : q < k
          · obtain ⟨b', o', e1, hb', hc'⟩ := hS.kept hw2 k hlt
            simp only [Option.some.injEq, Addr.mk.injEq, and_true] at e1
            obtain ⟨rfl, rfl⟩ := e1
            obtain ⟨b', o', e1, hb'', hd'⟩ := hS.kept hw2 q (by omega)
            simp only [Option.some.injEq, Addr.mk.injEq, and_true] at e1
            obtain ⟨rfl, rfl⟩ := e1
            rw [← HSK.out] at hc'
            obtain ⟨t, htk⟩ : ∃ t, t = l.getD q ByteArray.empty := ⟨_, rfl⟩
            rw [← htk] at hd'
            have HTK := hide htk
            clear htk
            cases hts : (t.toList == s.toList)
            · go_wp2
              go_region
              all_goals
                go_wp2
                go_roundw
                case rel =>
                  refine ⟨q + 1, by omega, by go_num, by repeat (first | apply Kept.drew | exact hw2), fun j hj => ?_⟩
                  by_cases e : j = q
                  · subst e
                    rw [← HTK.out]
                    exact bytes_ne hts
                  · exact unhide HD j (by omega)
                case measure => simp [intOf]; omega
            · go_wp2
              go_region
              all_goals
                go_wp2
                go_ret
                exact ⟨Says.no fun h => (h k hlt).2 q hqlt (by rw [← HTK.out, ← HSK.out]; exact bytes_eq.1 hts), by repeat (first | apply Kept.drew | exact hw2)⟩
          · go_wp2
            go_roundw
            case rel =>
              refine ⟨k + 1, by omega, by go_num, hw2, fun j hj => ?_⟩
              by_cases e : j = k
              · subst e
                rw [← HSK.out]
                exact ⟨HY.out, fun m hm => unhide HD m (by omega)⟩
              · exact unhide HG j (by omega)
            case measure => simp [intOf]; omega
      · go_wp2
        go_ret
        exact ⟨Says.no fun h => hno (by rw [HSK.out]; exact (h k hlt).1), hw⟩
    · go_wp2
      go_ret
      exact ⟨Says.yes fun j hj => unhide HG j (by omega), hw⟩
set_option maxHeartbeats 800000 in
theorem l1StepOk_end (w : World) (asks : Nat) (on : Int) (cases : Nat) (els fall : Int) (bad : Bool) (give : ByteArray) (aa ac : Option Addr) (ca cc : Nat) (n : Int) (h1 : asks ≤ maxLen) (h2 : cases ≤ maxLen) (h3 : give.size ≤ maxLen) :
    Calls Tryz.prog 108 #[.agg #[.slice aa asks ca, .int .i64 on, .slice ac cases cc, .int .i64 els, .int .i64 fall, .bool true, .bool bad, .string give], .int .i64 n] w
      fun e w' => Says e (asks = 0 ∧ on = 0 ∧ cases = 0 ∧ els = 0 ∧ fall = 0 ∧ give.size ≤ 30) ∧ Kept w w' := by
  unfold maxLen at h1 h2 h3
  have k0 : Kept w (w.alloc (.cells #[.slice aa asks ca, .int .i64 on, .slice ac cases cc, .int .i64 els, .int .i64 fall, .bool true, .bool bad, .string give] 120)) := (Kept.refl _).alloc _
  cases a1 : ((asks : Int) == 0)
  · go_enter Tryz.func108, Tryz.ntmps108
    go_wp2
    go_ret
    exact ⟨Says.no fun h => by simp at a1; omega, k0⟩
  · obtain rfl : asks = 0 := by simp at a1; omega
    clear a1
    cases a2 : (on == 0)
    · go_enter Tryz.func108, Tryz.ntmps108
      go_wp2
      go_ret
      exact ⟨Says.no fun h => by simp at a2; omega, k0⟩
    · obtain rfl : on = 0 := by simpa using a2
      clear a2
      cases a3 : ((cases : Int) == 0)
      · go_enter Tryz.func108, Tryz.ntmps108
        go_wp2
        go_ret
        exact ⟨Says.no fun h => by simp at a3; omega, k0⟩
      · obtain rfl : cases = 0 := by simp at a3; omega
        clear a3
        cases a4 : (els == 0)
        · go_enter Tryz.func108, Tryz.ntmps108
          go_wp2
          go_ret
          exact ⟨Says.no fun h => by simp at a4; omega, k0⟩
        · obtain rfl : els = 0 := by simpa using a4
          clear a4
          cases a5 : (fall == 0)
          · go_enter Tryz.func108, Tryz.ntmps108
            go_wp2
            go_ret
            exact ⟨Says.no fun h => by simp at a5; omega, k0⟩
          · obtain rfl : fall = 0 := by simpa using a5
            clear a5
            by_cases a6 : (give.size : Int) ≤ 30
            · go_enter Tryz.func108, Tryz.ntmps108
              go_wp2
              go_ret
              exact ⟨Says.yes (by simp; omega), k0⟩
            · go_enter Tryz.func108, Tryz.ntmps108
              go_wp2
              go_ret
              exact ⟨Says.no fun h => by omega, k0⟩
set_option maxRecDepth 100000 in
set_option maxHeartbeats 1600000 in
theorem l1StepOk_askNo (w : World) (s : StepD) (aa ac : Option Addr) (ca cc : Nat) (n : Int) (hs : s.Fits) (hn : 0 ≤ n ∧ n ≤ 20)
    (hA : Strs w aa s.asks) (hC : Cases w ac s.cases) (hfin : s.fin = false) (hF : Hid (¬ FrontOk s n)) :
    Calls Tryz.prog 108 #[.agg #[.slice aa s.asks.length ca, .int .i64 s.on, .slice ac s.cases.length cc, .int .i64 s.els, .int .i64 s.fall, .bool s.fin, .bool s.bad, .string s.give], .int .i64 n] w
      fun e w' => e = .returned (.bool false) ∧ Kept w w' := by
  rw [hfin]
  obtain ⟨hn0, hn1⟩ := hn
  have h1 := hs.asks
  have h2 := hs.cases
  have h3 := hs.give
  unfold maxLen at h1 h2 h3
  have hgive := empty_iff s.give
  have HGV := hide hgive
  clear hgive
  cases hbad : s.bad
  · have k0 : Kept w (w.alloc (.cells #[.slice aa s.asks.length ca, .int .i64 s.on, .slice ac s.cases.length cc, .int .i64 s.els, .int .i64 s.fall, .bool false, .bool false, .string s.give] 120)) := (Kept.refl _).alloc _
    go_enter Tryz.func108, Tryz.ntmps108
    go_wp2_with fail
    · have HE : Hid (s.give.size = 0) := HGV.out.1 (by assumption)
      refine (l1Names_any _ aa ca s.asks hs.asks hs.askEach (hA.kept k0)).mono ?_
      rintro e w1 ⟨hsay, k1⟩
      have k2 := k0.trans k1
      rcases hsay.cases with ⟨rfl, hyes⟩ | ⟨rfl, hno⟩
      · have HY := hide hyes
        clear hyes hsay
        obtain ⟨hc1, hf1⟩ := k1.rules
        have hz1 := k1.size
        simp only [World.size_alloc] at hz1
        clear k0 k1
        have hC2 := hC.kept k2
        clear hC hA
        by_cases b1 : (s.cases.length : Int) ≤ 5
        · by_cases b2 : 0 ≤ s.els
          · cases b3 : decide (s.els ≤ n - 1)
            · have b3' : n - 1 < s.els := by simpa using b3
              go_wp2
              go_ret
              exact ⟨rfl, k2⟩
            · have b3' : s.els ≤ n - 1 := by simpa using b3
              by_cases b4 : -1 ≤ s.fall
              · cases b5 : decide (s.fall ≤ n - 1)
                · have b5' : n - 1 < s.fall := by simpa using b5
                  go_wp2
                  go_ret
                  exact ⟨rfl, k2⟩
                · have b5' : s.fall ≤ n - 1 := by simpa using b5
                  have hon : ¬ (s.on = 0 ∨ (0 ≤ s.on ∧ s.on < s.asks.length)) := fun hon => hF.out ⟨hbad, HE.out, by omega, HY.out, by omega, ⟨by omega, by omega⟩, ⟨by omega, by omega⟩, hon⟩
                  have ho : (s.on != 0) = true := bne_iff_ne.2 (by omega)
                  by_cases o1 : 0 ≤ s.on
                  · have o2 : s.asks.length - 1 < s.on := by omega
                    have o3 : decide (s.on ≤ (s.asks.length : Int) - 1) = false := by simp; omega
                    clear hon
                    go_wp2
                    go_ret
                    exact ⟨rfl, k2⟩
                  · clear hon
                    go_wp2
                    go_ret
                    exact ⟨rfl, k2⟩
              · go_wp2
                go_ret
                exact ⟨rfl, k2⟩
          · go_wp2
            go_ret
            exact ⟨rfl, k2⟩
        · go_wp2
          go_ret
          exact ⟨rfl, k2⟩
      · clear hsay k0 k1
        go_wp2
        go_ret
        exact ⟨rfl, k2⟩
    · go_ret
      exact ⟨rfl, k0⟩
    · go_ret
      exact ⟨rfl, k0⟩
  · go_enter Tryz.func108, Tryz.ntmps108
    go_wp2
    go_ret
    exact ⟨rfl, (Kept.refl _).alloc _⟩
set_option maxRecDepth 100000 in
set_option maxHeartbeats 1600000 in
theorem l1StepOk_askYes (w : World) (s : StepD) (aa ac : Option Addr) (ca cc : Nat) (n : Int) (hs : s.Fits) (hn : 0 ≤ n ∧ n ≤ 20)
    (hA : Strs w aa s.asks) (hC : Cases w ac s.cases) (hfin : s.fin = false) (hF : FrontOk s n) :
    Calls Tryz.prog 108 #[.agg #[.slice aa s.asks.length ca, .int .i64 s.on, .slice ac s.cases.length cc, .int .i64 s.els, .int .i64 s.fall, .bool s.fin, .bool s.bad, .string s.give], .int .i64 n] w
      fun e w' => Says e (CasesOk s n) ∧ Kept w w' := by
  rw [hfin]
  obtain ⟨hn0, hn1⟩ := hn
  have h1 := hs.asks
  have h2 := hs.cases
  have h3 := hs.give
  unfold maxLen at h1 h2 h3
  have hgive := empty_iff s.give
  have HGV := hide hgive
  clear hgive
  obtain ⟨hbad, hgv, ha5, hnames, b1, ⟨b2, b3⟩, ⟨b4, b5⟩, hon⟩ := hF
  have hge : s.give.toList = [] := HGV.out.2 hgv
  have HN := hide hnames
  rw [hbad]
  have k0 : Kept w (w.alloc (.cells #[.slice aa s.asks.length ca, .int .i64 s.on, .slice ac s.cases.length cc, .int .i64 s.els, .int .i64 s.fall, .bool false, .bool false, .string s.give] 120)) := (Kept.refl _).alloc _
  clear hgv hnames HGV
  have b3' : s.els ≤ n - 1 := by omega
  have b5' : s.fall ≤ n - 1 := by omega
  have HON := hide hon
  clear hon
  go_enter Tryz.func108, Tryz.ntmps108
  go_wp2_with fail
  refine (l1Names_any _ aa ca s.asks hs.asks hs.askEach (hA.kept k0)).mono ?_
  rintro e w1 ⟨hsay, k1⟩
  have k2 := k0.trans k1
  rcases hsay.cases with ⟨rfl, hyes⟩ | ⟨rfl, hno⟩
  · clear hyes hsay
    obtain ⟨hc1, hf1⟩ := k1.rules
    have hz1 := k1.size
    simp only [World.size_alloc] at hz1
    clear k0 k1
    have hC2 := hC.kept k2
    clear hC hA
    by_cases hz : s.on = 0
    · have ho : (s.on != 0) = false := by rw [hz]; rfl
      clear hz
      go_wp2
      go_loop [5] (fun i => ∃ k : Nat, k ≤ s.cases.length ∧ i = .int .i64 k ∧ ∀ j, j < k → CaseOkAt s n j) (fun i => s.cases.length - (intOf i).toNat)
      case atStart => exact ⟨0, Nat.zero_le _, rfl, fun j hj => absurd hj (Nat.not_lt_zero _)⟩
      case round =>
        obtain ⟨k, hk, rfl, hg⟩ := hrel
        have HG := hide hg
        clear hg
        by_cases hlt : k < s.cases.length
        · obtain ⟨b, o, rfl, hb, hc⟩ := hC2 k hlt
          have hce : (s.cases.getD k CaseD.zero).text.size ≤ maxLen := (hs.caseEach _ (by simp [List.getD, hlt])).1
          obtain ⟨c, hck⟩ : ∃ c, c = s.cases.getD k CaseD.zero := ⟨_, rfl⟩
          rw [← hck] at hc hce
          have HCK := hide hck
          clear hck
          unfold maxLen at hce
          have c0 := hc 0 _ rfl
          have c1 := hc 1 _ rfl
          simp only [Nat.add_zero] at c0
          clear hc
          by_cases d1 : (c.text.size : Int) ≤ 200
          · by_cases d2 : 0 ≤ c.goto
            · cases d3 : decide (c.goto ≤ n - 1)
              · have d3' : n - 1 < c.goto := by simpa using d3
                go_wp2
                go_ret
                exact ⟨Says.no fun h => by have := h k hlt; unfold CaseOkAt at this; rw [← HCK.out] at this; obtain ⟨q1, q2, q3⟩ := this; omega, k2⟩
              · have d3' : c.goto ≤ n - 1 := by simpa using d3
                go_wp2
                go_round
                case rel =>
                  refine ⟨k + 1, by omega, by go_num, fun j hj => ?_⟩
                  by_cases e : j = k
                  · subst e
                    unfold CaseOkAt
                    rw [← HCK.out]
                    exact ⟨by omega, by omega, by omega⟩
                  · exact unhide HG j (by omega)
                case measure => simp [intOf]; omega
            · go_wp2
              go_ret
              exact ⟨Says.no fun h => by have := h k hlt; unfold CaseOkAt at this; rw [← HCK.out] at this; obtain ⟨q1, q2, q3⟩ := this; omega, k2⟩
          · go_wp2
            go_ret
            exact ⟨Says.no fun h => by have := h k hlt; unfold CaseOkAt at this; rw [← HCK.out] at this; obtain ⟨q1, q2, q3⟩ := this; omega, k2⟩
        · go_wp2
          go_ret
          exact ⟨Says.yes fun j hj => unhide HG j (by omega), k2⟩
    · have ho : (s.on != 0) = true := bne_iff_ne.2 hz
      have o1 : 0 ≤ s.on := by have := HON.out; omega
      have o3 : s.on ≤ (s.asks.length : Int) - 1 := by have := HON.out; omega
      clear hz
      go_wp2
      go_loop [5] (fun i => ∃ k : Nat, k ≤ s.cases.length ∧ i = .int .i64 k ∧ ∀ j, j < k → CaseOkAt s n j) (fun i => s.cases.length - (intOf i).toNat)
      case atStart => exact ⟨0, Nat.zero_le _, rfl, fun j hj => absurd hj (Nat.not_lt_zero _)⟩
      case round =>
        obtain ⟨k, hk, rfl, hg⟩ := hrel
        have HG := hide hg
        clear hg
        by_cases hlt : k < s.cases.length
        · obtain ⟨b, o, rfl, hb, hc⟩ := hC2 k hlt
          have hce : (s.cases.getD k CaseD.zero).text.size ≤ maxLen := (hs.caseEach _ (by simp [List.getD, hlt])).1
          obtain ⟨c, hck⟩ : ∃ c, c = s.cases.getD k CaseD.zero := ⟨_, rfl⟩
          rw [← hck] at hc hce
          have HCK := hide hck
          clear hck
          unfold maxLen at hce
          have c0 := hc 0 _ rfl
          have c1 := hc 1 _ rfl
          simp only [Nat.add_zero] at c0
          clear hc
          by_cases d1 : (c.text.size : Int) ≤ 200
          · by_cases d2 : 0 ≤ c.goto
            · cases d3 : decide (c.goto ≤ n - 1)
              · have d3' : n - 1 < c.goto := by simpa using d3
                go_wp2
                go_ret
                exact ⟨Says.no fun h => by have := h k hlt; unfold CaseOkAt at this; rw [← HCK.out] at this; obtain ⟨q1, q2, q3⟩ := this; omega, k2⟩
              · have d3' : c.goto ≤ n - 1 := by simpa using d3
                go_wp2
                go_round
                case rel =>
                  refine ⟨k + 1, by omega, by go_num, fun j hj => ?_⟩
                  by_cases e : j = k
                  · subst e
                    unfold CaseOkAt
                    rw [← HCK.out]
                    exact ⟨by omega, by omega, by omega⟩
                  · exact unhide HG j (by omega)
                case measure => simp [intOf]; omega
            · go_wp2
              go_ret
              exact ⟨Says.no fun h => by have := h k hlt; unfold CaseOkAt at this; rw [← HCK.out] at this; obtain ⟨q1, q2, q3⟩ := this; omega, k2⟩
          · go_wp2
            go_ret
            exact ⟨Says.no fun h => by have := h k hlt; unfold CaseOkAt at this; rw [← HCK.out] at this; obtain ⟨q1, q2, q3⟩ := this; omega, k2⟩
        · go_wp2
          go_ret
          exact ⟨Says.yes fun j hj => unhide HG j (by omega), k2⟩
  · exact absurd HN.out hno
theorem l1In_yes (w : World) (n lo hi : Int) (h1 : lo ≤ n) (h2 : n ≤ hi) :
    Calls Tryz.prog 73 #[.int .i64 n, .int .i64 lo, .int .i64 hi] w fun e w' => e = .returned (.bool true) ∧ w' = w := by
  go_enter Tryz.func73, Tryz.ntmps73
  go_wp2
  go_ret
  exact ⟨rfl, rfl⟩
theorem l1StepOk_any (w : World) (s : StepD) (aa ac : Option Addr) (ca cc : Nat) (n : Int) (hs : s.Fits) (hn : 0 ≤ n ∧ n ≤ 20)
    (hA : Strs w aa s.asks) (hC : Cases w ac s.cases) :
    Calls Tryz.prog 108 #[.agg #[.slice aa s.asks.length ca, .int .i64 s.on, .slice ac s.cases.length cc, .int .i64 s.els, .int .i64 s.fall, .bool s.fin, .bool s.bad, .string s.give], .int .i64 n] w
      fun e w' => Says e (StepOk s n) ∧ Kept w w' := by
  cases hfin : s.fin
  · rw [← hfin]
    by_cases hF : FrontOk s n
    · refine (l1StepOk_askYes w s aa ac ca cc n hs hn hA hC hfin hF).mono ?_
      rintro e w' ⟨h, k⟩
      exact ⟨h.congr ⟨fun h => ⟨fun e => (by rw [hfin] at e; cases e), fun _ => ⟨hF, h⟩⟩, fun h => (h.2 hfin).2⟩, k⟩
    · refine (l1StepOk_askNo w s aa ac ca cc n hs hn hA hC hfin hF).mono ?_
      rintro e w' ⟨rfl, k⟩
      exact ⟨Says.no fun h => hF (h.2 hfin).1, k⟩
  · refine (l1StepOk_end w s.asks.length s.on s.cases.length s.els s.fall s.bad s.give aa ac ca cc n hs.asks hs.cases hs.give).mono ?_
    rintro e w' ⟨h, k⟩
    exact ⟨h.congr ⟨fun h => ⟨fun _ => h, fun e => (by rw [hfin] at e; cases e)⟩, fun h => h.1 hfin⟩, k⟩
set_option maxRecDepth 100000 in
set_option maxHeartbeats 1600000 in
theorem specValidAction_any (w : World) (cost : Int) (a : Option Addr) (cap : Nat) (l : List StepD) (hl : l.length ≤ maxLen) (hs : ∀ s ∈ l, s.Fits) (hS : Steps w a l) :
    Calls Tryz.prog 72 #[.agg #[.int .i64 cost, .slice a l.length cap]] w fun e w' => Says e (ActionOk ⟨cost, l⟩) ∧ Kept w w' := by
  unfold maxLen at hl
  have k0 : Kept w (w.alloc (.cells #[.int .i64 cost, .slice a l.length cap] 62)) := (Kept.refl _).alloc _
  by_cases a1 : 1 ≤ cost
  · by_cases a2 : cost ≤ 20
    · by_cases a3 : (1 : Int) ≤ l.length
      · by_cases a4 : (l.length : Int) ≤ 20
        · go_enter Tryz.func72, Tryz.ntmps72
          go_wp2_with (go_at_call 73; refine (l1In_yes _ _ _ _ (by omega) (by omega)).mono ?_; rintro e w' ⟨rfl, rfl⟩)
          go_loopw [4] (fun i wr => ∃ k : Nat, k ≤ l.length ∧ i = .int .i64 k ∧ Kept (w.alloc (.cells #[.int .i64 cost, .slice a l.length cap] 62)) wr ∧ ∀ j, j < k → StepOk (l.getD j StepD.zero) l.length) (fun i _ => l.length - (intOf i).toNat)
          case atStart => exact ⟨0, Nat.zero_le _, rfl, Kept.refl _, fun j hj => absurd hj (Nat.not_lt_zero _)⟩
          case round =>
            obtain ⟨k, hk, rfl, hw, hg⟩ := hrel
            have HG := hide hg
            clear hg
            obtain ⟨hc1, hf1⟩ := hw.rules
            have hz1 := hw.size
            simp only [World.size_alloc] at hz1
            by_cases hlt : k < l.length
            · obtain ⟨b, o, cs, rfl, hb, hc, aa, ca, ac, cc, rfl, hA, hC, hca⟩ := (hS.kept k0).kept hw k hlt
              have hsz := hs (l.getD k StepD.zero) (by simp [List.getD, hlt])
              obtain ⟨s, hsk⟩ : ∃ s, s = l.getD k StepD.zero := ⟨_, rfl⟩
              rw [← hsk] at hc hsz hA hC
              have HSK := hide hsk
              clear hsk
              have c0 := hc 0 _ rfl
              have c1 := hc 1 _ rfl
              have c2 := hc 2 _ rfl
              have c3 := hc 3 _ rfl
              have c4 := hc 4 _ rfl
              have c5 := hc 5 _ rfl
              have c6 := hc 6 _ rfl
              have c7 := hc 7 _ rfl
              simp only [Nat.add_zero] at c0
              clear hc
              go_wp2_with fail
              refine (l1StepOk_any _ s aa ac ca cc _ hsz ⟨by omega, by omega⟩ hA hC).mono ?_
              rintro e w1 ⟨hsay, hw1⟩
              have hw2 := hw.trans hw1
              clear c0 c1 c2 c3 c4 c5 c6 c7 hA hC hw hw1 hc1 hf1
              rcases hsay.cases with ⟨rfl, hyes⟩ | ⟨rfl, hno⟩
              · have HY := hide hyes
                clear hyes hsay
                go_wp2
                go_roundw
                case rel =>
                  refine ⟨k + 1, by omega, by go_num, hw2, fun j hj => ?_⟩
                  by_cases e : j = k
                  · subst e
                    rw [← HSK.out]
                    exact HY.out
                  · exact unhide HG j (by omega)
                case measure => simp [intOf]; omega
              · have HN := hide hno
                clear hno hsay
                go_wp2
                go_ret
                exact ⟨Says.no fun h => HN.out (by rw [HSK.out]; exact h.2.2 k hlt), k0.trans hw2⟩
            · go_wp2
              go_ret
              exact ⟨Says.yes ⟨⟨a1, a2⟩, ⟨by show 1 ≤ l.length; omega, by show l.length ≤ 20; omega⟩, fun j (hj : j < l.length) => unhide HG j (by omega)⟩, k0.trans hw⟩
        · go_enter Tryz.func72, Tryz.ntmps72
          go_wp2
          go_ret
          exact ⟨Says.no fun h => by have := h.2.1.2; simp at this; omega, k0⟩
      · go_enter Tryz.func72, Tryz.ntmps72
        go_wp2
        go_ret
        exact ⟨Says.no fun h => by have := h.2.1.1; simp at this; omega, k0⟩
    · go_enter Tryz.func72, Tryz.ntmps72
      go_wp2
      go_ret
      exact ⟨Says.no fun h => by have := h.1.2; simp at this; omega, k0⟩
  · go_enter Tryz.func72, Tryz.ntmps72
    go_wp2
    go_ret
    exact ⟨Says.no fun h => by have := h.1.1; simp at this; omega, k0⟩
def Has (l : List ByteArray) (v : ByteArray) : Prop := ∃ i, i < l.length ∧ l.getD i ByteArray.empty = v
set_option maxHeartbeats 800000 in
theorem index_any (w : World) (a : Option Addr) (cap : Nat) (l : List ByteArray) (v : ByteArray) (hl : l.length ≤ maxLen) (hS : Strs w a l) :
    Calls Tryz.prog 137 #[.slice a l.length cap, .string v] w fun e w' => (∃ r, e = .returned (.int .i64 r) ∧ (0 ≤ r ↔ Has l v)) ∧ w' = w := by
  unfold maxLen at hl
  go_enter Tryz.func137, Tryz.ntmps137
  go_wp2
  go_loop [8] (fun i => ∃ k : Nat, k ≤ l.length ∧ i = .int .i64 k ∧ ∀ j, j < k → l.getD j ByteArray.empty ≠ v) (fun i => l.length - (intOf i).toNat)
  case atStart => exact ⟨0, Nat.zero_le _, rfl, fun j hj => absurd hj (Nat.not_lt_zero _)⟩
  case round =>
    obtain ⟨k, hk, rfl, hg⟩ := hrel
    have HG := hide hg
    clear hg
    by_cases hlt : k < l.length
    · obtain ⟨b, o, rfl, hb, hc⟩ := hS k hlt
      obtain ⟨s, hsk⟩ : ∃ s, s = l.getD k ByteArray.empty := ⟨_, rfl⟩
      rw [← hsk] at hc
      have HSK := hide hsk
      clear hsk
      cases hvs : (v.toList == s.toList)
      · go_wp2
        go_round
        case rel =>
          refine ⟨k + 1, by omega, by go_num, fun j hj => ?_⟩
          by_cases e : j = k
          · subst e
            rw [← HSK.out]
            exact (bytes_ne hvs).symm
          · exact unhide HG j (by omega)
        case measure => simp [intOf]; omega
      · go_wp2
        go_ret
        exact ⟨⟨_, rfl, ⟨fun _ => ⟨k, hlt, by rw [← HSK.out]; exact (bytes_eq.1 hvs).symm⟩, fun _ => by omega⟩⟩, rfl⟩
    · go_wp2
      go_ret
      exact ⟨⟨_, rfl, ⟨fun h => by omega, fun ⟨i, hi, e⟩ => absurd e (unhide HG i (by omega))⟩⟩, rfl⟩
theorem contains_any (w : World) (a : Option Addr) (cap : Nat) (l : List ByteArray) (v : ByteArray) (hl : l.length ≤ maxLen) (hS : Strs w a l) :
    Calls Tryz.prog 116 #[.slice a l.length cap, .string v] w fun e w' => Says e (Has l v) ∧ w' = w := by
  go_enter Tryz.func116, Tryz.ntmps116
  go_wp2_with fail
  refine (index_any _ a cap l v hl hS).mono ?_
  rintro e w1 ⟨⟨r, rfl, hr⟩, rfl⟩
  have HR := hide hr
  clear hr
  by_cases h0 : 0 ≤ r
  · have h1 : decide (0 ≤ r) = true := by simpa using h0
    go_wp2
    go_ret
    exact ⟨Says.congr (p := True) (Says.yes trivial) ⟨fun _ => HR.out.1 h0, fun _ => trivial⟩, rfl⟩
  · have h1 : decide (0 ≤ r) = false := by simpa using h0
    go_wp2
    go_ret
    exact ⟨Says.congr (p := False) (Says.no id) ⟨False.elim, fun h => by have := HR.out.2 h; omega⟩, rfl⟩
set_option maxHeartbeats 800000 in
theorem soundEnd_any (w : World) (asks : Nat) (on : Int) (cases : Nat) (els fall : Int) (fin bad : Bool) (give : ByteArray) (aa ac : Option Addr) (ca cc : Nat) (h1 : asks ≤ maxLen) (h2 : cases ≤ maxLen) (h3 : give.size ≤ maxLen) :
    Calls Tryz.prog 202 #[.agg #[.slice aa asks ca, .int .i64 on, .slice ac cases cc, .int .i64 els, .int .i64 fall, .bool fin, .bool bad, .string give]] w
      fun e w' => Says e (asks = 0 ∧ on = 0 ∧ cases = 0 ∧ els = 0 ∧ fall = 0 ∧ give.size ≤ 30) ∧ Kept w w' := by
  unfold maxLen at h1 h2 h3
  cases a1 : ((asks : Int) == 0)
  · go_enter Tryz.func202, Tryz.ntmps202
    go_wp2
    all_goals
      go_ret
      exact ⟨Says.no fun h => by simp at a1; omega, (Kept.refl _).alloc _⟩
  · obtain rfl : asks = 0 := by simp at a1; omega
    clear a1
    cases a2 : (on == 0)
    · go_enter Tryz.func202, Tryz.ntmps202
      go_wp2
      all_goals
        go_ret
        exact ⟨Says.no fun h => by simp at a2; omega, (Kept.refl _).alloc _⟩
    · obtain rfl : on = 0 := by simpa using a2
      clear a2
      cases a3 : ((cases : Int) == 0)
      · go_enter Tryz.func202, Tryz.ntmps202
        go_wp2
        go_ret
        exact ⟨Says.no fun h => by simp at a3; omega, (Kept.refl _).alloc _⟩
      · obtain rfl : cases = 0 := by simp at a3; omega
        clear a3
        cases a4 : (els == 0)
        · go_enter Tryz.func202, Tryz.ntmps202
          go_wp2
          go_ret
          exact ⟨Says.no fun h => by simp at a4; omega, (Kept.refl _).alloc _⟩
        · obtain rfl : els = 0 := by simpa using a4
          clear a4
          cases a5 : (fall == 0)
          · go_enter Tryz.func202, Tryz.ntmps202
            go_wp2
            go_ret
            exact ⟨Says.no fun h => by simp at a5; omega, (Kept.refl _).alloc _⟩
          · obtain rfl : fall = 0 := by simpa using a5
            clear a5
            by_cases a6 : (give.size : Int) ≤ 30
            · go_enter Tryz.func202, Tryz.ntmps202
              go_wp2
              go_ret
              exact ⟨Says.yes (by simp; omega), (Kept.refl _).alloc _⟩
            · go_enter Tryz.func202, Tryz.ntmps202
              go_wp2
              go_ret
              exact ⟨Says.no fun h => by omega, (Kept.refl _).alloc _⟩
end Go.Proofs.YtjhemildijapmaaGreatDoor
