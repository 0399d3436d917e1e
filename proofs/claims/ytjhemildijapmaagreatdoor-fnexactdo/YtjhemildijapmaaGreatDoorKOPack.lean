import Derived.Test.YtjhemildijapmaaGreatDoorKWGo5
import Derived.Test.YtjhemildijapmaaGreatDoorKWImpl
import Derived.Test.YtjhemildijapmaaGreatDoorKWNode
import Derived.Test.YtjhemildijapmaaGreatDoorKDBase
import Derived.OwnWalk
namespace Go.Proofs.YtjhemildijapmaaGreatDoor
open Go.RowKit
set_option maxRecDepth 100000 in
set_option maxHeartbeats 3200000 in
theorem specGoOn_no (w : World) (cost at' : Int) (a d : Option Addr) (cap dcap : Nat) (l : List StepD) (ans : List AnswerD) (hl : l.length ≤ maxLen) (hs : ∀ s ∈ l, s.Fits) (hS : Steps w a l)
    (hal : ans.length ≤ maxLen) (_has : ∀ c ∈ ans, c.text.size ≤ maxLen) (_hD : Answers w d ans)
    (hF : Hid (¬ (FrontGo cost l at' ∧ ans.length = (stepAt l at').asks.length))) :
    Calls Tryz.prog 80 #[.agg #[.int .i64 cost, .slice a l.length cap], .int .i64 at', .slice d ans.length dcap] w fun e w' => (∃ g, e = .returned (.agg g.cells.toArray) ∧ WentOn cost l at' ans g) ∧ Kept w w' := by
  have hl' := hl
  have hal' := hal
  unfold maxLen at hl' hal'
  have k0 : Kept w ((w.alloc (.cells #[.int .i64 cost, .slice a l.length cap] 62)).alloc (.cells #[.int .i64 0, .bool false, .int .i64 0, .string ⟨#[]⟩] 141)) := ((Kept.refl _).alloc _).alloc _
  go_enter Tryz.func80, Tryz.ntmps80
  go_wp2_with fail
  refine (specValidAction_any _ cost a cap l hl hs (hS.kept k0)).mono ?_
  rintro e w1 ⟨hsay, k1⟩
  have K1 := k0.trans k1
  have hrow1 : Row w1 (w.heap.size + 1) 4 := Row.kept (by have := Row.made (w.alloc (.cells #[.int .i64 cost, .slice a l.length cap] 62)) #[.int .i64 0, .bool false, .int .i64 0, .string ⟨#[]⟩] 141; simpa using this) k1
  have HROW := hide hrow1
  clear hrow1
  obtain ⟨hc1, hf1⟩ := k1.rules
  have hz1 := k1.size
  simp only [World.size_alloc] at hz1
  have x0 : w.heap.size < w1.heap.size := by omega
  have x1 : w.heap.size + 1 < w1.heap.size := by omega
  rcases hsay.cases with ⟨rfl, hyes⟩ | ⟨rfl, hno⟩
  · have HV := hide hyes
    clear hyes hsay k0 k1
    by_cases p1 : 0 ≤ at'
    · cases p2 : decide (at' ≤ (l.length : Int) - 1)
      · have p2' : (l.length : Int) - 1 < at' := by simpa using p2
        go_wp2
        have hR := World.rangeAt_setCells_same w1 (w.heap.size + 1) 0 GoneD.none.cells (HROW.out.there (o := 0) (m := 4) (Nat.le_refl _))
        exact bodyPost_ret_cell GoneD.none.cells _ Tryz.results80 rfl hR Tryz.underlying141 rfl Tryz.sizeGone rfl ⟨⟨_, rfl, Or.inl ⟨fun h => (by have := h.2.1; omega), rfl⟩⟩, Kept.setCells (g := w.heap.size + 1) (by omega) GoneD.none.cells 0 K1⟩
      · have p2' : at' ≤ (l.length : Int) - 1 := by simpa using p2
        obtain ⟨n, rfl⟩ := Int.eq_ofNat_of_zero_le p1
        have hlt : n < l.length := by omega
        obtain ⟨b, o, cs, rfl, hb, hc, aa, ca, ac, cc, rfl, hA, hC, hca⟩ := hS.kept K1 n hlt
        have hsz := hs (l.getD n StepD.zero) (by simp [List.getD, hlt])
        obtain ⟨s, hsk⟩ : ∃ s, s = l.getD n StepD.zero := ⟨_, rfl⟩
        rw [← hsk] at hc hsz hA hC hca
        have HSK : Hid (stepAt l n = s) := by rw [hsk]; show Hid (l.getD (n : Int).toNat StepD.zero = _); rw [Int.toNat_natCast]; exact rfl
        have HOK : Hid (StepOk s l.length) := by rw [hsk]; exact HV.out.2.2 n hlt
        clear hsk
        have c0 := hc 0 _ rfl
        have c1 := hc 1 _ rfl
        have c2 := hc 2 _ rfl
        have c3 := hc 3 _ rfl
        have c4 := hc 4 _ rfl
        have c5 := hc 5 _ rfl
        have c6 := hc 6 _ rfl
        have c7 := hc 7 _ rfl
        simp only [Nat.add_zero] at c0
        clear hc
        cases hfin : s.fin
        · rw [hfin] at c5
          have HF : Hid (FrontGo cost l n) := ⟨HV.out, ⟨by omega, by omega⟩, by rw [HSK.out]; exact hfin⟩
          have hne : ans.length ≠ s.asks.length := fun h => hF.out ⟨HF.out, by rw [HSK.out]; exact h⟩
          have hneq : ((ans.length : Int) != (s.asks.length : Int)) = true := by simp; omega
          have HNE := hide hne
          clear hne
          go_wp2
          have hR := World.rangeAt_setCells_same w1 (w.heap.size + 1) 0 GoneD.none.cells (HROW.out.there (o := 0) (m := 4) (Nat.le_refl _))
          exact bodyPost_ret_cell GoneD.none.cells _ Tryz.results80 rfl hR Tryz.underlying141 rfl Tryz.sizeGone rfl ⟨⟨_, rfl, Or.inr ⟨HF.out, Or.inl ⟨fun h => HNE.out (by have := h.1; rw [HSK.out] at this; exact this), rfl⟩⟩⟩, Kept.setCells (g := w.heap.size + 1) (by omega) GoneD.none.cells 0 K1⟩
        · rw [hfin] at c5
          go_wp2
          have hR := World.rangeAt_setCells_same w1 (w.heap.size + 1) 0 GoneD.none.cells (HROW.out.there (o := 0) (m := 4) (Nat.le_refl _))
          exact bodyPost_ret_cell GoneD.none.cells _ Tryz.results80 rfl hR Tryz.underlying141 rfl Tryz.sizeGone rfl ⟨⟨_, rfl, Or.inl ⟨fun h => (by have := h.2.2; rw [HSK.out, hfin] at this; cases this), rfl⟩⟩, Kept.setCells (g := w.heap.size + 1) (by omega) GoneD.none.cells 0 K1⟩
    · skip
      go_wp2
      have hR := World.rangeAt_setCells_same w1 (w.heap.size + 1) 0 GoneD.none.cells (HROW.out.there (o := 0) (m := 4) (Nat.le_refl _))
      exact bodyPost_ret_cell GoneD.none.cells _ Tryz.results80 rfl hR Tryz.underlying141 rfl Tryz.sizeGone rfl ⟨⟨_, rfl, Or.inl ⟨fun h => (by have := h.2.1; omega), rfl⟩⟩, Kept.setCells (g := w.heap.size + 1) (by omega) GoneD.none.cells 0 K1⟩
  · have HV := hide hno
    clear hno hsay k0 k1
    go_wp2
    have hR := World.rangeAt_setCells_same w1 (w.heap.size + 1) 0 GoneD.none.cells (HROW.out.there (o := 0) (m := 4) (Nat.le_refl _))
    exact bodyPost_ret_cell GoneD.none.cells _ Tryz.results80 rfl hR Tryz.underlying141 rfl Tryz.sizeGone rfl ⟨⟨_, rfl, Or.inl ⟨fun h => HV.out h.1, rfl⟩⟩, Kept.setCells (g := w.heap.size + 1) (by omega) GoneD.none.cells 0 K1⟩
set_option maxRecDepth 100000 in
set_option maxHeartbeats 6400000 in
theorem specGoOn_yes (w : World) (cost at' : Int) (a d : Option Addr) (cap dcap : Nat) (l : List StepD) (ans : List AnswerD) (hl : l.length ≤ maxLen) (hs : ∀ s ∈ l, s.Fits) (hS : Steps w a l)
    (hal : ans.length ≤ maxLen) (has : ∀ c ∈ ans, c.text.size ≤ maxLen) (hD : Answers w d ans)
    (hF : FrontGo cost l at') (hE : ans.length = (stepAt l at').asks.length) :
    Calls Tryz.prog 80 #[.agg #[.int .i64 cost, .slice a l.length cap], .int .i64 at', .slice d ans.length dcap] w fun e w' => (∃ g, e = .returned (.agg g.cells.toArray) ∧ WentOn cost l at' ans g) ∧ Kept w w' := by
  have HF0 := hide hF
  have HE0 := hide hE
  clear hF hE
  have hl' := hl
  have hal' := hal
  unfold maxLen at hl' hal'
  have k0 : Kept w ((w.alloc (.cells #[.int .i64 cost, .slice a l.length cap] 62)).alloc (.cells #[.int .i64 0, .bool false, .int .i64 0, .string ⟨#[]⟩] 141)) := ((Kept.refl _).alloc _).alloc _
  go_enter Tryz.func80, Tryz.ntmps80
  go_wp2_with fail
  refine (specValidAction_any _ cost a cap l hl hs (hS.kept k0)).mono ?_
  rintro e w1 ⟨hsay, k1⟩
  have K1 := k0.trans k1
  have hrow1 : Row w1 (w.heap.size + 1) 4 := Row.kept (by have := Row.made (w.alloc (.cells #[.int .i64 cost, .slice a l.length cap] 62)) #[.int .i64 0, .bool false, .int .i64 0, .string ⟨#[]⟩] 141; simpa using this) k1
  have HROW := hide hrow1
  clear hrow1
  obtain ⟨hc1, hf1⟩ := k1.rules
  have hz1 := k1.size
  simp only [World.size_alloc] at hz1
  have x0 : w.heap.size < w1.heap.size := by omega
  have x1 : w.heap.size + 1 < w1.heap.size := by omega
  rcases hsay.cases with ⟨rfl, hyes⟩ | ⟨rfl, hno⟩
  · have HV := hide hyes
    clear hyes hsay k0 k1
    have p1 : 0 ≤ at' := HF0.out.2.1.1
    have p2 : at' < l.length := HF0.out.2.1.2
    obtain ⟨n, rfl⟩ := Int.eq_ofNat_of_zero_le p1
    have hlt : n < l.length := by omega
    obtain ⟨b, o, cs, rfl, hb, hc, aa, ca, ac, cc, rfl, hA, hC, hca⟩ := hS.kept K1 n hlt
    have hsz := hs (l.getD n StepD.zero) (by simp [List.getD, hlt])
    obtain ⟨s, hsk⟩ : ∃ s, s = l.getD n StepD.zero := ⟨_, rfl⟩
    rw [← hsk] at hc hsz hA hC hca
    have HSK : Hid (stepAt l n = s) := by rw [hsk]; show Hid (l.getD (n : Int).toNat StepD.zero = _); rw [Int.toNat_natCast]; exact rfl
    have HOK : Hid (StepOk s l.length) := by rw [hsk]; exact HV.out.2.2 n hlt
    clear hsk
    have c0 := hc 0 _ rfl
    have c1 := hc 1 _ rfl
    have c2 := hc 2 _ rfl
    have c3 := hc 3 _ rfl
    have c4 := hc 4 _ rfl
    have c5 := hc 5 _ rfl
    have c6 := hc 6 _ rfl
    have c7 := hc 7 _ rfl
    simp only [Nat.add_zero] at c0
    clear hc
    have hfin : s.fin = false := by have := HF0.out.2.2; rw [HSK.out] at this; exact this
    rw [hfin] at c5
    have HLEN : Hid (ans.length = s.asks.length) := by have := HE0.out; rw [HSK.out] at this; exact this
    have hneq : ((ans.length : Int) != (s.asks.length : Int)) = false := by have := HLEN.out; simp; omega
    have HF : Hid (FrontGo cost l n) := HF0.out
    have HAK : Hid (AskOk s l.length) := HOK.out.2 hfin
    clear HF0 HE0
    have kA : Kept w1 (w1.alloc (.cells #[.slice aa s.asks.length ca, .int .i64 s.on, .slice ac s.cases.length cc, .int .i64 s.els, .int .i64 s.fall, .bool false, .bool s.bad, .string s.give] 120)) := (Kept.refl _).alloc _
    have K2 := K1.trans kA
    have HROW2 := hide (HROW.out.kept kA)
    go_wp2_with (go_at_call 73; refine (l1In_yes _ _ _ _ (by omega) (by omega)).mono ?_; rintro e w' ⟨rfl, hw'⟩; have hw'' := Eq.symm hw'; clear hw'; subst hw'')
    clear c0 c1 c2 c3 c4 c5 c6 c7
    go_loop [8] (fun i => ∃ k : Nat, k ≤ ans.length ∧ i = .int .i64 k ∧ NoneTo ans IsLong k) (fun i => ans.length - (intOf i).toNat)
    case atStart => exact ⟨0, Nat.zero_le _, rfl, fun j hj => absurd hj (Nat.not_lt_zero _)⟩
    case round =>
      obtain ⟨k, hk, rfl, hg⟩ := hrel
      have HG := hide hg
      clear hg
      by_cases hlt1 : k < ans.length
      · obtain ⟨b1, o1, rfl, hb1, hd⟩ := hD.kept K2 k hlt1
        have hsz1 : (ans.getD k AnswerD.zero).text.size ≤ maxLen := has _ (by simp [List.getD, hlt1])
        obtain ⟨c, hck⟩ : ∃ c, c = ans.getD k AnswerD.zero := ⟨_, rfl⟩
        rw [← hck] at hd hsz1
        have HCK := hide hck
        clear hck
        unfold maxLen at hsz1
        have d1 := hd 1 _ rfl
        clear hd
        by_cases hlong : (200 : Int) < c.text.size
        · skip
          go_wp2
          have hR := World.rangeAt_alloc (World.rangeAt_setCells_same w1 (w.heap.size + 1) 0 GoneD.none.cells (HROW.out.there (o := 0) (m := 4) (Nat.le_refl _))) (.cells #[.slice aa s.asks.length ca, .int .i64 s.on, .slice ac s.cases.length cc, .int .i64 s.els, .int .i64 s.fall, .bool false, .bool s.bad, .string s.give] 120)
          exact bodyPost_ret_cell GoneD.none.cells _ Tryz.results80 rfl hR Tryz.underlying141 rfl Tryz.sizeGone rfl ⟨⟨_, rfl, Or.inr ⟨HF.out, by rw [HSK.out]; exact Or.inl ⟨fun h => h.2 ⟨k, hlt1, by unfold IsLong; rw [← HCK.out]; omega⟩, rfl⟩⟩⟩, Kept.alloc (Kept.setCells (g := w.heap.size + 1) (by omega) GoneD.none.cells 0 K1) _⟩
        · go_wp2
          go_round
          case rel =>
            refine ⟨k + 1, by omega, by go_num, fun j hj => ?_⟩
            by_cases e : j = k
            · subst e
              unfold IsLong
              rw [← HCK.out]
              omega
            · exact HG.out j (by omega)
          case measure => simp [intOf]; omega
      · have HAO : Hid (AnsOk s ans) := ⟨HLEN.out, fun ⟨i, hi, h⟩ => HG.out i (by omega) h⟩
        clear HG
        go_wp2
        go_loop [9] (fun i => ∃ k : Nat, k ≤ ans.length ∧ i = .int .i64 k ∧ NoneTo ans IsFail k) (fun i => ans.length - (intOf i).toNat)
        case atStart => exact ⟨0, Nat.zero_le _, rfl, fun j hj => absurd hj (Nat.not_lt_zero _)⟩
        case round =>
          clear hk hlt1
          obtain ⟨k, hk, rfl, hg⟩ := hrel
          have HG := hide hg
          clear hg
          by_cases hlt2 : k < ans.length
          · obtain ⟨b1, o1, rfl, hb1, hd⟩ := hD.kept K2 k hlt2
            obtain ⟨c, hck⟩ : ∃ c, c = ans.getD k AnswerD.zero := ⟨_, rfl⟩
            rw [← hck] at hd
            have HCK := hide hck
            clear hck
            have d0 := hd 0 _ rfl
            simp only [Nat.add_zero] at d0
            clear hd
            cases hcf : c.fail
            · rw [hcf] at d0
              go_wp2
              go_round
              case rel =>
                refine ⟨k + 1, by omega, by go_num, fun j hj => ?_⟩
                by_cases e : j = k
                · subst e
                  unfold IsFail
                  rw [← HCK.out, hcf]
                  simp
                · exact HG.out j (by omega)
              case measure => simp [intOf]; omega
            · rw [hcf] at d0
              have HP : Hid (IsFail (ans.getD k AnswerD.zero)) := by rw [← HCK.out]; exact hcf
              cases b5 : (s.fall == -1)
              · skip
                go_wp2
                have hR := World.rangeAt_alloc (World.rangeAt_setCells_same w1 (w.heap.size + 1) 0 [.int .i64 0, .bool false, .int .i64 s.fall, .string ⟨#[]⟩] (HROW.out.there (o := 0) (m := 4) (Nat.le_refl _))) (.cells #[.slice aa s.asks.length ca, .int .i64 s.on, .slice ac s.cases.length cc, .int .i64 s.els, .int .i64 s.fall, .bool false, .bool s.bad, .string s.give] 120)
                exact bodyPost_ret_cell [.int .i64 0, .bool false, .int .i64 s.fall, .string ⟨#[]⟩] _ Tryz.results80 rfl hR Tryz.underlying141 rfl Tryz.sizeGone rfl ⟨⟨⟨0, false, s.fall, ⟨#[]⟩⟩, rfl, Or.inr ⟨HF.out, by rw [HSK.out]; exact Or.inr ⟨HAO.out, Or.inl ⟨k, hlt2, HP.out, HG.out, Or.inr ⟨by simpa using b5, rfl⟩⟩⟩⟩⟩, Kept.alloc (Kept.setCells (g := w.heap.size + 1) (by omega) [.int .i64 0, .bool false, .int .i64 s.fall, .string ⟨#[]⟩] 0 K1) _⟩
              · have hia : k < s.asks.length := by have := HLEN.out; omega
                obtain ⟨b6, o6, rfl, hb6, ha6⟩ := hA.kept kA k hia
                have hv20 : (s.asks.getD k ByteArray.empty).size ≤ 20 := (HAK.out.1.2.2.2.1 k hia).1.2.1
                obtain ⟨v, hv⟩ : ∃ v, v = s.asks.getD k ByteArray.empty := ⟨_, rfl⟩
                rw [← hv] at ha6 hv20
                have HV2 := hide hv
                clear hv
                go_wp2
                have hR := World.rangeAt_setCells_same w1 (w.heap.size + 1) 0 [.int .i64 0, .bool true, .int .i64 0, .string ((⟨#[98, 101, 108, 111, 119, 32]⟩ : ByteArray) ++ v)] (HROW.out.there (o := 0) (m := 4) (Nat.le_refl _))
                exact bodyPost_ret_cell [.int .i64 0, .bool true, .int .i64 0, .string ((⟨#[98, 101, 108, 111, 119, 32]⟩ : ByteArray) ++ v)] _ Tryz.results80 rfl (World.rangeAt_alloc hR _) Tryz.underlying141 rfl Tryz.sizeGone rfl ⟨⟨⟨0, true, 0, _⟩, rfl, Or.inr ⟨HF.out, by rw [HSK.out]; exact Or.inr ⟨HAO.out, Or.inl ⟨k, hlt2, HP.out, HG.out, Or.inl ⟨by simpa using b5, by unfold belowOf; rw [← HV2.out]⟩⟩⟩⟩⟩, Kept.alloc (Kept.setCells (g := w.heap.size + 1) (by omega) [.int .i64 0, .bool true, .int .i64 0, .string ((⟨#[98, 101, 108, 111, 119, 32]⟩ : ByteArray) ++ v)] 0 K1) _⟩
          · have HNF : Hid (NoneTo ans IsFail ans.length) := fun j hj => HG.out j (by omega)
            clear HG
            cases a9 : ((ans.length : Int) == 0)
            · have hne : ans.length ≠ 0 := by simp at a9; simpa using a9
              have HNE := hide hne
              have hon : 0 ≤ s.on ∧ s.on < ans.length := by have h1 := HAK.out.1.2.2.2.2.2.2.2; have h2 := HLEN.out; omega
              obtain ⟨q1, q2⟩ := hon
              clear hne
              obtain ⟨t, htk⟩ : ∃ t, t = textAt ans s.on := ⟨_, rfl⟩
              have HTK := hide htk
              clear htk
              have hm2 : s.on.toNat < ans.length := by omega
              have hcl := hsz.cases
              unfold maxLen at hcl
              go_wp2
              go_loopw [10] (fun i wr => ∃ k : Nat, k ≤ s.cases.length ∧ i = .int .i64 k ∧ Kept (w1.alloc (.cells #[.slice aa s.asks.length ca, .int .i64 s.on, .slice ac s.cases.length cc, .int .i64 s.els, .int .i64 s.fall, .bool false, .bool s.bad, .string s.give] 120)) wr ∧ CaseTo s t k) (fun i _ => s.cases.length - (intOf i).toNat)
              case atStart => exact ⟨0, Nat.zero_le _, rfl, Kept.refl _, fun j hj => absurd hj (Nat.not_lt_zero _)⟩
              case round =>
                obtain ⟨k, hk, rfl, hw, hg⟩ := hrel
                have HG := hide hg
                clear hg
                have k3 : Kept w wr := K2.trans hw
                obtain ⟨hc3, hf3⟩ := hw.rules
                have hz3 := hw.size
                simp only [World.size_alloc] at hz3
                have HROW3 := hide (HROW2.out.kept hw)
                have v0 : w.heap.size + 1 < w1.heap.size + 1 := by omega
                have v1 : w1.heap.size < w1.heap.size + 1 := by omega
                by_cases hlt3 : k < s.cases.length
                · obtain ⟨b3, o3, rfl, hb3, hcc⟩ := (hC.kept kA).kept hw k hlt3
                  obtain ⟨b4, o4, e4, hb4, hd4⟩ := hD.kept k3 s.on.toNat hm2
                  obtain ⟨c, hck⟩ : ∃ c, c = s.cases.getD k CaseD.zero := ⟨_, rfl⟩
                  rw [← hck] at hcc
                  have HCK := hide hck
                  clear hck
                  have g0 := hcc 0 _ rfl
                  have g1 := hcc 1 _ rfl
                  have d1 := hd4 1 _ rfl
                  simp only [Nat.add_zero] at g0
                  have htn : (ans.getD s.on.toNat AnswerD.zero).text = t := by have h1 := HTK.out; unfold textAt at h1; exact h1.symm
                  rw [htn] at d1
                  subst e4
                  clear hcc hd4 htn
                  cases hct : (c.text.toList == t.toList)
                  · go_wp2
                    go_region
                    all_goals
                      go_wp2
                      go_roundw
                      case rel =>
                        refine ⟨k + 1, by omega, by go_num, by repeat (first | apply Kept.drew | exact hw), fun j hj => ?_⟩
                        by_cases e : j = k
                        · subst e
                          unfold CaseIs
                          rw [← HCK.out]
                          exact bytes_ne hct
                        · exact HG.out j (by omega)
                      case measure => simp [intOf]; omega
                  · go_wp2
                    go_region
                    all_goals
                      go_wp2
                      have hR := World.rangeAt_setCells_same wr.drew (w.heap.size + 1) 0 [.int .i64 0, .bool false, .int .i64 c.goto, .string ⟨#[]⟩] (Row.there (Row.kept HROW3.out (Kept.drew (Kept.refl _))) (o := 0) (m := 4) (Nat.le_refl _))
                      exact bodyPost_ret_cell [.int .i64 0, .bool false, .int .i64 c.goto, .string ⟨#[]⟩] _ Tryz.results80 rfl hR Tryz.underlying141 rfl Tryz.sizeGone rfl ⟨⟨⟨0, false, c.goto, ⟨#[]⟩⟩, rfl, Or.inr ⟨HF.out, by rw [HSK.out]; exact Or.inr ⟨HAO.out, Or.inr ⟨HNF.out, c.goto, Or.inr ⟨HNE.out, Or.inl ⟨k, hlt3, by unfold CaseIs; rw [← HCK.out, ← HTK.out]; exact bytes_eq.1 hct, by rw [← HTK.out]; exact HG.out, by unfold gotoOf; rw [← HCK.out]⟩⟩, rfl⟩⟩⟩⟩, Kept.setCells (g := w.heap.size + 1) (by omega) [.int .i64 0, .bool false, .int .i64 c.goto, .string ⟨#[]⟩] 0 k3.drew⟩
                · skip
                  go_wp2
                  have hR := World.rangeAt_setCells_same wr (w.heap.size + 1) 0 [.int .i64 0, .bool false, .int .i64 s.els, .string ⟨#[]⟩] (HROW3.out.there (o := 0) (m := 4) (Nat.le_refl _))
                  exact bodyPost_ret_cell [.int .i64 0, .bool false, .int .i64 s.els, .string ⟨#[]⟩] _ Tryz.results80 rfl hR Tryz.underlying141 rfl Tryz.sizeGone rfl ⟨⟨⟨0, false, s.els, ⟨#[]⟩⟩, rfl, Or.inr ⟨HF.out, by rw [HSK.out]; exact Or.inr ⟨HAO.out, Or.inr ⟨HNF.out, s.els, Or.inr ⟨HNE.out, Or.inr ⟨by rw [← HTK.out]; exact fun j hj => HG.out j (by omega), rfl⟩⟩, rfl⟩⟩⟩⟩, Kept.setCells (g := w.heap.size + 1) (by omega) [.int .i64 0, .bool false, .int .i64 s.els, .string ⟨#[]⟩] 0 k3⟩
            · skip
              go_wp2
              have hR := World.rangeAt_alloc (World.rangeAt_setCells_same w1 (w.heap.size + 1) 0 [.int .i64 0, .bool false, .int .i64 s.els, .string ⟨#[]⟩] (HROW.out.there (o := 0) (m := 4) (Nat.le_refl _))) (.cells #[.slice aa s.asks.length ca, .int .i64 s.on, .slice ac s.cases.length cc, .int .i64 s.els, .int .i64 s.fall, .bool false, .bool s.bad, .string s.give] 120)
              exact bodyPost_ret_cell [.int .i64 0, .bool false, .int .i64 s.els, .string ⟨#[]⟩] _ Tryz.results80 rfl hR Tryz.underlying141 rfl Tryz.sizeGone rfl ⟨⟨⟨0, false, s.els, ⟨#[]⟩⟩, rfl, Or.inr ⟨HF.out, by rw [HSK.out]; exact Or.inr ⟨HAO.out, Or.inr ⟨HNF.out, s.els, Or.inl ⟨by simp at a9; simpa using a9, rfl⟩, rfl⟩⟩⟩⟩, Kept.alloc (Kept.setCells (g := w.heap.size + 1) (by omega) [.int .i64 0, .bool false, .int .i64 s.els, .string ⟨#[]⟩] 0 K1) _⟩
  · exact absurd HF0.out.1 hno
theorem specGoOn_any (w : World) (cost at' : Int) (a d : Option Addr) (cap dcap : Nat) (l : List StepD) (ans : List AnswerD) (hl : l.length ≤ maxLen) (hs : ∀ s ∈ l, s.Fits) (hS : Steps w a l)
    (hal : ans.length ≤ maxLen) (has : ∀ c ∈ ans, c.text.size ≤ maxLen) (hD : Answers w d ans) :
    Calls Tryz.prog 80 #[.agg #[.int .i64 cost, .slice a l.length cap], .int .i64 at', .slice d ans.length dcap] w fun e w' => (∃ g, e = .returned (.agg g.cells.toArray) ∧ WentOn cost l at' ans g) ∧ Kept w w' := by
  by_cases h : FrontGo cost l at' ∧ ans.length = (stepAt l at').asks.length
  · exact specGoOn_yes w cost at' a d cap dcap l ans hl hs hS hal has hD h.1 h.2
  · exact specGoOn_no w cost at' a d cap dcap l ans hl hs hS hal has hD h
def NoneN (l : List NodeD) (p : NodeD → Prop) (k : Nat) : Prop := ∀ j, j < k → ¬ p (l.getD j NodeD.zero)
def SomeN (l : List NodeD) (p : NodeD → Prop) : Prop := ∃ i, i < l.length ∧ p (l.getD i NodeD.zero)
def FirstN (l : List NodeD) (p : NodeD → Prop) (r : Int) : Prop :=
  (∃ i, i < l.length ∧ r = (i : Int) ∧ p (l.getD i NodeD.zero)) ∨ (r = -1 ∧ NoneN l p l.length)
def BadName (d : NodeD) : Prop := ¬ NameOk d.name
def BadMade (d : NodeD) : Prop := ¬ ActionOk ⟨d.cost, d.steps⟩
theorem badlyNamed_any (w : World) (d : NodeD) (a : Option Addr) (cap : Nat) (hd : d.Fits) :
    Calls Tryz.prog 112 #[.agg #[.string d.name, .int .i64 d.cost, .slice a d.steps.length cap]] w fun e w' => Says e (BadName d) ∧ Kept w w' := by
  have k0 : Kept w (w.alloc (.cells #[.string d.name, .int .i64 d.cost, .slice a d.steps.length cap] 95)) := (Kept.refl _).alloc _
  go_enter Tryz.func112, Tryz.ntmps112
  go_wp2_with fail
  refine (validName_any _ d.name hd.name).mono ?_
  rintro e w1 ⟨hsay, k1⟩
  have k2 := k0.trans k1
  clear k0 k1
  rcases hsay.cases with ⟨rfl, hyes⟩ | ⟨rfl, hno⟩
  · have HY := hide hyes
    clear hyes hsay
    go_wp2
    go_ret
    exact ⟨Says.no fun h => h HY.out, k2⟩
  · have HY := hide hno
    clear hno hsay
    go_wp2
    go_ret
    exact ⟨Says.yes HY.out, k2⟩
theorem badlyMade_any (w : World) (d : NodeD) (a : Option Addr) (cap : Nat) (hd : d.Fits) (hS : Steps w a d.steps) :
    Calls Tryz.prog 114 #[.agg #[.string d.name, .int .i64 d.cost, .slice a d.steps.length cap]] w fun e w' => Says e (BadMade d) ∧ Kept w w' := by
  have k0 : Kept w (w.alloc (.cells #[.string d.name, .int .i64 d.cost, .slice a d.steps.length cap] 95)) := (Kept.refl _).alloc _
  go_enter Tryz.func114, Tryz.ntmps114
  go_wp2_with fail
  refine (implValidAction_any _ d.cost a cap d.steps hd.steps hd.each (hS.kept k0)).mono ?_
  rintro e w1 ⟨hsay, k1⟩
  have k2 := k0.trans k1
  clear k0 k1
  rcases hsay.cases with ⟨rfl, hyes⟩ | ⟨rfl, hno⟩
  · have HY := hide hyes
    clear hyes hsay
    go_wp2
    go_ret
    exact ⟨Says.no fun h => h HY.out, k2⟩
  · have HY := hide hno
    clear hno hsay
    go_wp2
    go_ret
    exact ⟨Says.yes HY.out, k2⟩
set_option maxRecDepth 100000 in
set_option maxHeartbeats 800000 in
theorem indexNamed (w : World) (a : Option Addr) (cap : Nat) (l : List NodeD) (hl : l.length ≤ maxLen) (hs : ∀ c ∈ l, c.Fits) (hS : Nodes w a l) :
    Calls Tryz.prog 135 #[.slice a l.length cap, .func (.func 112) #[] #[]] w fun e w' => (∃ r, e = .returned (.int .i64 r) ∧ FirstN l BadName r) ∧ Kept w w' := by
  unfold maxLen at hl
  go_enter Tryz.func135, Tryz.ntmps135
  go_wp2
  go_loopw [8] (fun i wr => ∃ k : Nat, k ≤ l.length ∧ i = .int .i64 k ∧ Kept w wr ∧ NoneN l BadName k) (fun i _ => l.length - (intOf i).toNat)
  case atStart => exact ⟨0, Nat.zero_le _, rfl, Kept.refl _, fun j hj => absurd hj (Nat.not_lt_zero _)⟩
  case round =>
    obtain ⟨k, hk, rfl, hw, hg⟩ := hrel
    have HG := hide hg
    clear hg
    by_cases hlt : k < l.length
    · obtain ⟨b, o, cs, rfl, hb, hc, aa, ca, rfl, hA⟩ := hS.kept hw k hlt
      have hsz := hs (l.getD k NodeD.zero) (by simp [List.getD, hlt])
      obtain ⟨c, hck⟩ : ∃ c, c = l.getD k NodeD.zero := ⟨_, rfl⟩
      rw [← hck] at hc hsz hA
      have HCK := hide hck
      clear hck
      have c0 := hc 0 _ rfl
      have c1 := hc 1 _ rfl
      have c2 := hc 2 _ rfl
      simp only [Nat.add_zero] at c0
      clear hc
      go_wp2_with fail
      refine (badlyNamed_any _ c aa ca hsz).mono ?_
      rintro e w1 ⟨hsay, hw1⟩
      have hw2 := hw.trans hw1
      clear c0 c1 c2 hw hw1
      rcases hsay.cases with ⟨rfl, hyes⟩ | ⟨rfl, hno⟩
      · have HY := hide hyes
        clear hyes hsay
        go_wp2
        go_ret
        exact ⟨⟨k, rfl, Or.inl ⟨k, hlt, rfl, by rw [← HCK.out]; exact HY.out⟩⟩, hw2⟩
      · have HN := hide hno
        clear hno hsay
        go_wp2
        go_roundw
        case rel =>
          refine ⟨k + 1, by omega, by go_num, hw2, fun j hj => ?_⟩
          by_cases e : j = k
          · subst e
            rw [← HCK.out]
            exact HN.out
          · exact HG.out j (by omega)
        case measure => simp [intOf]; omega
    · go_wp2
      go_ret
      exact ⟨⟨-1, rfl, Or.inr ⟨rfl, fun j hj => HG.out j (by omega)⟩⟩, hw⟩
set_option maxRecDepth 100000 in
set_option maxHeartbeats 800000 in
theorem indexMade (w : World) (a : Option Addr) (cap : Nat) (l : List NodeD) (hl : l.length ≤ maxLen) (hs : ∀ c ∈ l, c.Fits) (hS : Nodes w a l) :
    Calls Tryz.prog 135 #[.slice a l.length cap, .func (.func 114) #[] #[]] w fun e w' => (∃ r, e = .returned (.int .i64 r) ∧ FirstN l BadMade r) ∧ Kept w w' := by
  unfold maxLen at hl
  go_enter Tryz.func135, Tryz.ntmps135
  go_wp2
  go_loopw [8] (fun i wr => ∃ k : Nat, k ≤ l.length ∧ i = .int .i64 k ∧ Kept w wr ∧ NoneN l BadMade k) (fun i _ => l.length - (intOf i).toNat)
  case atStart => exact ⟨0, Nat.zero_le _, rfl, Kept.refl _, fun j hj => absurd hj (Nat.not_lt_zero _)⟩
  case round =>
    obtain ⟨k, hk, rfl, hw, hg⟩ := hrel
    have HG := hide hg
    clear hg
    by_cases hlt : k < l.length
    · obtain ⟨b, o, cs, rfl, hb, hc, aa, ca, rfl, hA⟩ := hS.kept hw k hlt
      have hsz := hs (l.getD k NodeD.zero) (by simp [List.getD, hlt])
      obtain ⟨c, hck⟩ : ∃ c, c = l.getD k NodeD.zero := ⟨_, rfl⟩
      rw [← hck] at hc hsz hA
      have HCK := hide hck
      clear hck
      have c0 := hc 0 _ rfl
      have c1 := hc 1 _ rfl
      have c2 := hc 2 _ rfl
      simp only [Nat.add_zero] at c0
      clear hc
      go_wp2_with fail
      refine (badlyMade_any _ c aa ca hsz hA).mono ?_
      rintro e w1 ⟨hsay, hw1⟩
      have hw2 := hw.trans hw1
      clear c0 c1 c2 hw hw1
      rcases hsay.cases with ⟨rfl, hyes⟩ | ⟨rfl, hno⟩
      · have HY := hide hyes
        clear hyes hsay
        go_wp2
        go_ret
        exact ⟨⟨k, rfl, Or.inl ⟨k, hlt, rfl, by rw [← HCK.out]; exact HY.out⟩⟩, hw2⟩
      · have HN := hide hno
        clear hno hsay
        go_wp2
        go_roundw
        case rel =>
          refine ⟨k + 1, by omega, by go_num, hw2, fun j hj => ?_⟩
          by_cases e : j = k
          · subst e
            rw [← HCK.out]
            exact HN.out
          · exact HG.out j (by omega)
        case measure => simp [intOf]; omega
    · go_wp2
      go_ret
      exact ⟨⟨-1, rfl, Or.inr ⟨rfl, fun j hj => HG.out j (by omega)⟩⟩, hw⟩
theorem containsNamed (w : World) (a : Option Addr) (cap : Nat) (l : List NodeD) (hl : l.length ≤ maxLen) (hs : ∀ c ∈ l, c.Fits) (hS : Nodes w a l) :
    Calls Tryz.prog 111 #[.slice a l.length cap, .func (.func 112) #[] #[]] w fun e w' => Says e (SomeN l BadName) ∧ Kept w w' := by
  go_enter Tryz.func111, Tryz.ntmps111
  go_wp2_with fail
  refine (indexNamed _ a cap l hl hs hS).mono ?_
  rintro e w1 ⟨⟨r, rfl, hr⟩, k1⟩
  have HR := hide hr
  clear hr
  by_cases h0 : 0 ≤ r
  · have h1 : decide (0 ≤ r) = true := by simpa using h0
    go_wp2
    go_ret
    exact ⟨Says.yes (by rcases HR.out with ⟨i, hi, _, hp⟩ | ⟨rfl, _⟩; exact ⟨i, hi, hp⟩; omega), k1⟩
  · have h1 : decide (0 ≤ r) = false := by simpa using h0
    go_wp2
    go_ret
    exact ⟨Says.no (by rcases HR.out with ⟨i, hi, rfl, hp⟩ | ⟨rfl, hno⟩; omega; exact fun ⟨i, hi, hp⟩ => hno i hi hp), k1⟩
theorem containsMade (w : World) (a : Option Addr) (cap : Nat) (l : List NodeD) (hl : l.length ≤ maxLen) (hs : ∀ c ∈ l, c.Fits) (hS : Nodes w a l) :
    Calls Tryz.prog 111 #[.slice a l.length cap, .func (.func 114) #[] #[]] w fun e w' => Says e (SomeN l BadMade) ∧ Kept w w' := by
  go_enter Tryz.func111, Tryz.ntmps111
  go_wp2_with fail
  refine (indexMade _ a cap l hl hs hS).mono ?_
  rintro e w1 ⟨⟨r, rfl, hr⟩, k1⟩
  have HR := hide hr
  clear hr
  by_cases h0 : 0 ≤ r
  · have h1 : decide (0 ≤ r) = true := by simpa using h0
    go_wp2
    go_ret
    exact ⟨Says.yes (by rcases HR.out with ⟨i, hi, _, hp⟩ | ⟨rfl, _⟩; exact ⟨i, hi, hp⟩; omega), k1⟩
  · have h1 : decide (0 ≤ r) = false := by simpa using h0
    go_wp2
    go_ret
    exact ⟨Says.no (by rcases HR.out with ⟨i, hi, rfl, hp⟩ | ⟨rfl, hno⟩; omega; exact fun ⟨i, hi, hp⟩ => hno i hi hp), k1⟩
def FallsAt (l : List NodeD) (i : Nat) : Prop := Op.bytesLess (l.getD i NodeD.zero).name.toList (l.getD (i + 1) NodeD.zero).name.toList = false
def SomeFalls (l : List NodeD) : Prop := ∃ i, i + 1 < l.length ∧ FallsAt l i
def RisesTo (l : List NodeD) (k : Nat) : Prop := ∀ j, j + 1 < k → ¬ FallsAt l j
def WebCode (l : List NodeD) (c : Int) : Prop :=
  (60 < l.length ∧ c = 1) ∨ (¬ 60 < l.length ∧ SomeN l BadName ∧ c = 2) ∨ (¬ 60 < l.length ∧ ¬ SomeN l BadName ∧ SomeFalls l ∧ c = 3) ∨
  (¬ 60 < l.length ∧ ¬ SomeN l BadName ∧ ¬ SomeFalls l ∧ SomeN l BadMade ∧ c = 4) ∨ (¬ 60 < l.length ∧ ¬ SomeN l BadName ∧ ¬ SomeFalls l ∧ ¬ SomeN l BadMade ∧ c = 0)
theorem WebCode.unique {l : List NodeD} {c c' : Int} (h : WebCode l c) (h' : WebCode l c') : c = c' := by
  rcases h with ⟨h1, rfl⟩ | ⟨h1, h2, rfl⟩ | ⟨h1, h2, h3, rfl⟩ | ⟨h1, h2, h3, h4, rfl⟩ | ⟨h1, h2, h3, h4, rfl⟩ <;>
    rcases h' with ⟨g1, rfl⟩ | ⟨g1, g2, rfl⟩ | ⟨g1, g2, g3, rfl⟩ | ⟨g1, g2, g3, g4, rfl⟩ | ⟨g1, g2, g3, g4, rfl⟩ <;> first | rfl | contradiction
set_option maxRecDepth 100000 in
set_option maxHeartbeats 3200000 in
theorem specCheckWeb_any (w : World) (a : Option Addr) (cap : Nat) (l : List NodeD) (hl : l.length ≤ maxLen) (hs : ∀ s ∈ l, s.Fits) (hS : Nodes w a l) :
    Calls Tryz.prog 38 #[.agg #[.slice a l.length cap]] w fun e w' => (∃ c, e = .returned (.int .i64 c) ∧ WebCode l c) ∧ Kept w w' := by
  unfold maxLen at hl
  have k0 : Kept w (w.alloc (.cells #[.slice a l.length cap] 37)) := (Kept.refl _).alloc _
  by_cases a1 : (60 : Int) < l.length
  · go_enter Tryz.func38, Tryz.ntmps38
    go_wp2
    go_ret
    exact ⟨⟨1, rfl, Or.inl ⟨by omega, rfl⟩⟩, k0⟩
  · have a2 : decide ((60 : Int) < l.length) = false := by simpa using a1
    go_enter Tryz.func38, Tryz.ntmps38
    go_wp2
    clear a2
    go_loopw [3] (fun i wr => ∃ k : Nat, k ≤ l.length ∧ i = .int .i64 k ∧ Kept (w.alloc (.cells #[.slice a l.length cap] 37)) wr ∧ NoneN l BadName k) (fun i _ => l.length - (intOf i).toNat)
    case atStart => exact ⟨0, Nat.zero_le _, rfl, Kept.refl _, fun j hj => absurd hj (Nat.not_lt_zero _)⟩
    case round =>
      obtain ⟨k, hk, rfl, hw, hg⟩ := hrel
      have HG := hide hg
      clear hg
      obtain ⟨hc1, hf1⟩ := hw.rules
      have hz1 := hw.size
      simp only [World.size_alloc] at hz1
      by_cases hlt : k < l.length
      · obtain ⟨b, o, cs, rfl, hb, hc, aa, ca, rfl, hA⟩ := (hS.kept k0).kept hw k hlt
        have hsz := hs (l.getD k NodeD.zero) (by simp [List.getD, hlt])
        obtain ⟨d, hdk⟩ : ∃ d, d = l.getD k NodeD.zero := ⟨_, rfl⟩
        rw [← hdk] at hc hsz
        have HDK := hide hdk
        clear hdk
        have c0 := hc 0 _ rfl
        simp only [Nat.add_zero] at c0
        clear hc hA
        go_wp2_with fail
        refine (l1NameOk_any _ d.name hsz.name).mono ?_
        rintro e w1 ⟨hsay, hw1⟩
        have hw1' := Eq.symm hw1
        clear hw1
        subst hw1'
        rcases hsay.cases with ⟨rfl, hyes⟩ | ⟨rfl, hno⟩
        · have HY := hide hyes
          clear hyes hsay c0
          go_wp2
          go_roundw
          case rel =>
            refine ⟨k + 1, by omega, by go_num, hw, fun j hj => ?_⟩
            by_cases e : j = k
            · subst e
              rw [← HDK.out]
              exact fun h => h HY.out
            · exact HG.out j (by omega)
          case measure => simp [intOf]; omega
        · have HN := hide hno
          clear hno hsay c0
          go_wp2
          go_ret
          exact ⟨⟨2, rfl, Or.inr (Or.inl ⟨by omega, ⟨k, hlt, by rw [← HDK.out]; exact HN.out⟩, rfl⟩)⟩, k0.trans hw⟩
      · have HB : Hid (¬ SomeN l BadName) := fun ⟨i, hi, h⟩ => HG.out i (by omega) h
        clear HG
        go_wp2
        clear hc1 hf1 hz1
        go_loopw [4] (fun i wr' => ∃ n : Nat, 1 ≤ n ∧ n ≤ l.length + 1 ∧ i = .int .i64 n ∧ Kept (w.alloc (.cells #[.slice a l.length cap] 37)) wr' ∧ RisesTo l n) (fun i _ => l.length + 2 - (intOf i).toNat)
        case atStart => exact ⟨1, by omega, by omega, rfl, hw, fun j hj => absurd hj (by omega)⟩
        case round =>
          clear hw hk hlt
          obtain ⟨n, hn1, hn2, rfl, hw, hg⟩ := hrel
          have HG := hide hg
          clear hg
          obtain ⟨hc1, hf1⟩ := hw.rules
          have hz1 := hw.size
          simp only [World.size_alloc] at hz1
          by_cases hlt : n < l.length
          · obtain ⟨b, o, cs, rfl, hb, hc, aa, ca, rfl, hA⟩ := (hS.kept k0).kept hw (n - 1) (by omega)
            obtain ⟨b', o', cs', e', hb', hc', ba, da, rfl, hA'⟩ := (hS.kept k0).kept hw n hlt
            simp only [Option.some.injEq, Addr.mk.injEq, and_true] at e'
            obtain ⟨rfl, rfl⟩ := e'
            obtain ⟨x, hxk⟩ : ∃ x, x = (l.getD (n - 1) NodeD.zero) := ⟨_, rfl⟩
            obtain ⟨y, hyk⟩ : ∃ y, y = (l.getD n NodeD.zero) := ⟨_, rfl⟩
            rw [← hxk] at hc
            rw [← hyk] at hc'
            have HX : Hid (l.getD (n - 1) NodeD.zero = x) := hxk.symm
            have HYK : Hid (l.getD (n - 1 + 1) NodeD.zero = y) := by rw [hyk, show n - 1 + 1 = n by omega]; exact rfl
            clear hxk hyk hA hA'
            have c0 := hc 0 _ rfl
            have d0 := hc' 0 _ rfl
            simp only [Nat.add_zero] at c0 d0
            clear hc hc'
            have i0 : (0 : Int) ≤ (n : Int) - 1 := by omega
            have i1 : (n : Int) - 1 < (l.length : Int) := by omega
            cases hbl : Op.bytesLess x.name.toList y.name.toList
            · go_wp2
              go_region
              all_goals
                go_wp2
                go_ret
                exact ⟨⟨3, rfl, Or.inr (Or.inr (Or.inl ⟨by omega, HB.out, ⟨n - 1, by omega, by unfold FallsAt; rw [HX.out, HYK.out]; exact hbl⟩, rfl⟩))⟩, k0.trans (by repeat (first | apply Kept.drew | exact hw))⟩
            · go_wp2
              go_region
              all_goals
                go_wp2
                go_roundw
                case rel =>
                  refine ⟨n + 1, by omega, by omega, by go_num, by repeat (first | apply Kept.drew | exact hw), fun j hj => ?_⟩
                  by_cases e : j = n - 1
                  · subst e
                    unfold FallsAt
                    rw [HX.out, HYK.out, hbl]
                    simp
                  · exact HG.out j (by omega)
                case measure => simp [intOf]; omega
          · have HC : Hid (¬ SomeFalls l) := fun ⟨i, hi, h⟩ => HG.out i (by omega) h
            clear HG
            go_wp2
            clear hc1 hf1 hz1
            go_loopw [5] (fun i wr' => ∃ k : Nat, k ≤ l.length ∧ i = .int .i64 k ∧ Kept (w.alloc (.cells #[.slice a l.length cap] 37)) wr' ∧ NoneN l BadMade k) (fun i _ => l.length - (intOf i).toNat)
            case atStart => exact ⟨0, Nat.zero_le _, rfl, hw, fun j hj => absurd hj (Nat.not_lt_zero _)⟩
            case round =>
              clear hw hlt
              obtain ⟨k, hk, rfl, hw, hg⟩ := hrel
              have HG := hide hg
              clear hg
              obtain ⟨hc1, hf1⟩ := hw.rules
              have hz1 := hw.size
              simp only [World.size_alloc] at hz1
              by_cases hlt : k < l.length
              · obtain ⟨b, o, cs, rfl, hb, hc, aa, ca, rfl, hA⟩ := (hS.kept k0).kept hw k hlt
                have hsz := hs (l.getD k NodeD.zero) (by simp [List.getD, hlt])
                obtain ⟨d, hdk⟩ : ∃ d, d = l.getD k NodeD.zero := ⟨_, rfl⟩
                rw [← hdk] at hc hsz hA
                have HDK := hide hdk
                clear hdk
                have c0 := hc 0 _ rfl
                have c1 := hc 1 _ rfl
                have c2 := hc 2 _ rfl
                simp only [Nat.add_zero] at c0
                clear hc
                go_wp2_with fail
                refine (specValidAction_any _ d.cost aa ca d.steps hsz.steps hsz.each hA).mono ?_
                rintro e w1 ⟨hsay, hw1⟩
                have hw2 := hw.trans hw1
                clear hw hw1 c0 c1 c2 hA hc1 hf1
                rcases hsay.cases with ⟨rfl, hyes⟩ | ⟨rfl, hno⟩
                · have HY := hide hyes
                  clear hyes hsay
                  go_wp2
                  go_roundw
                  case rel =>
                    refine ⟨k + 1, by omega, by go_num, hw2, fun j hj => ?_⟩
                    by_cases e : j = k
                    · subst e
                      rw [← HDK.out]
                      exact fun h => h HY.out
                    · exact HG.out j (by omega)
                  case measure => simp [intOf]; omega
                · have HN := hide hno
                  clear hno hsay
                  go_wp2
                  go_ret
                  exact ⟨⟨4, rfl, Or.inr (Or.inr (Or.inr (Or.inl ⟨by omega, HB.out, HC.out, ⟨k, hlt, by rw [← HDK.out]; exact HN.out⟩, rfl⟩)))⟩, k0.trans hw2⟩
              · go_wp2
                go_ret
                exact ⟨⟨0, rfl, Or.inr (Or.inr (Or.inr (Or.inr ⟨by omega, HB.out, HC.out, fun ⟨i, hi, h⟩ => HG.out i (by omega) h, rfl⟩)))⟩, k0.trans hw⟩
def Packed (w : World) (cs : List Value) (l : List NodeD) : Prop :=
  cs.length = l.length * 3 ∧ (∀ u ∈ cs, u.oneCell' = true) ∧ ∀ i, i < l.length → ∃ a cap, Steps w a (l.getD i NodeD.zero).steps ∧ ∀ t v, ((l.getD i NodeD.zero).cells a cap)[t]? = some v → cs[i * 3 + t]? = some v
theorem Packed.nil (w : World) : Packed w [] [] := ⟨rfl, (fun u hu => by cases hu), (fun i hi => by simp at hi)⟩
theorem Packed.kept {w w' : World} {cs : List Value} {l : List NodeD} (h : Packed w cs l) (k : Kept w w') : Packed w' cs l :=
  ⟨h.1, h.2.1, fun i hi => by obtain ⟨a, cap, h1, h2⟩ := h.2.2 i hi; exact ⟨a, cap, h1.kept k, h2⟩⟩
theorem Packed.append {w : World} {c1 c2 : List Value} {l1 l2 : List NodeD} (h1 : Packed w c1 l1) (h2 : Packed w c2 l2) : Packed w (c1 ++ c2) (l1 ++ l2) := by
  refine ⟨by rw [List.length_append, List.length_append, h1.1, h2.1, Nat.add_mul], fun u hu => ?_, fun i hi => ?_⟩
  · rcases List.mem_append.1 hu with h | h
    · exact h1.2.1 u h
    · exact h2.2.1 u h
  · by_cases hlt : i < l1.length
    · have e : (l1 ++ l2).getD i NodeD.zero = l1.getD i NodeD.zero := by simp [List.getD, List.getElem?_append_left hlt]
      rw [e]
      obtain ⟨a, cap, g1, g2⟩ := h1.2.2 i hlt
      refine ⟨a, cap, g1, fun t v hv => ?_⟩
      have := g2 t v hv
      rw [List.getElem?_append_left (List.getElem?_eq_some_iff.1 this).1]
      exact this
    · have hi2 : i - l1.length < l2.length := by rw [List.length_append] at hi; omega
      have e : (l1 ++ l2).getD i NodeD.zero = l2.getD (i - l1.length) NodeD.zero := by simp [List.getD, List.getElem?_append_right (by omega : l1.length ≤ i)]
      rw [e]
      obtain ⟨a, cap, g1, g2⟩ := h2.2.2 _ hi2
      refine ⟨a, cap, g1, fun t v hv => ?_⟩
      have := g2 t v hv
      rw [List.getElem?_append_right (by rw [h1.1]; omega), h1.1]
      have e2 : i * 3 + t - l1.length * 3 = (i - l1.length) * 3 + t := by omega
      rw [e2]
      exact this
end Go.Proofs.YtjhemildijapmaaGreatDoor
