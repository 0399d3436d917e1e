import Derived.Test.YtjhemildijapmaaGreatDoorKDBase
import Derived.Test.YtjhemildijapmaaGreatDoorProg
import Derived.WalkSpells
import Derived.WalkLawsBesides
import Derived.Laws.IdiomStrings
import Derived.WalkKit
import Derived.Deep.OwnRows
namespace Go.Proofs.YtjhemildijapmaaGreatDoor
open Go.RowKit
structure GoneD where
  code : Int
  over : Bool
  at' : Int
  text : ByteArray
def GoneD.cells (g : GoneD) : List Value := [.int .i64 g.code, .bool g.over, .int .i64 g.at', .string g.text]
theorem longAnswer_any (w : World) (c : AnswerD) (hc : c.text.size ≤ maxLen) :
    Calls Tryz.prog 144 #[.agg #[.bool c.fail, .string c.text]] w fun e w' => Says e (200 < c.text.size) ∧ Kept w w' := by
  unfold maxLen at hc
  go_enter Tryz.func144, Tryz.ntmps144
  go_wp2
  go_ret
  exact ⟨(Says.dec _).congr ⟨fun h => by omega, fun h => by omega⟩, (Kept.refl _).alloc _⟩
theorem failed_any (w : World) (c : AnswerD) :
    Calls Tryz.prog 97 #[.agg #[.bool c.fail, .string c.text]] w fun e w' => Says e (c.fail = true) ∧ Kept w w' := by
  go_enter Tryz.func97, Tryz.ntmps97
  go_wp2
  go_ret
  exact ⟨⟨c.fail, rfl, Iff.rfl⟩, (Kept.refl _).alloc _⟩
def FirstAt (l : List AnswerD) (p : AnswerD → Prop) (r : Int) : Prop :=
  (∃ i, i < l.length ∧ r = (i : Int) ∧ p (l.getD i AnswerD.zero) ∧ ∀ j, j < i → ¬ p (l.getD j AnswerD.zero)) ∨ (r = -1 ∧ ∀ j, j < l.length → ¬ p (l.getD j AnswerD.zero))
def NoneTo (l : List AnswerD) (p : AnswerD → Prop) (k : Nat) : Prop := ∀ j, j < k → ¬ p (l.getD j AnswerD.zero)
def IsLong (c : AnswerD) : Prop := 200 < c.text.size
def IsFail (c : AnswerD) : Prop := c.fail = true
set_option maxRecDepth 100000 in
set_option maxHeartbeats 800000 in
theorem indexLong (w : World) (a : Option Addr) (cap : Nat) (l : List AnswerD) (hl : l.length ≤ maxLen) (hs : ∀ c ∈ l, c.text.size ≤ maxLen) (hS : Answers w a l) :
    Calls Tryz.prog 96 #[.slice a l.length cap, .func (.func 144) #[] #[]] w fun e w' => (∃ r, e = .returned (.int .i64 r) ∧ FirstAt l IsLong r) ∧ Kept w w' := by
  unfold maxLen at hl
  go_enter Tryz.func96, Tryz.ntmps96
  go_wp2
  go_loopw [8] (fun i wr => ∃ k : Nat, k ≤ l.length ∧ i = .int .i64 k ∧ Kept w wr ∧ NoneTo l IsLong k) (fun i _ => l.length - (intOf i).toNat)
  case atStart => exact ⟨0, Nat.zero_le _, rfl, Kept.refl _, fun j hj => absurd hj (Nat.not_lt_zero _)⟩
  case round =>
    obtain ⟨k, hk, rfl, hw, hg⟩ := hrel
    have HG := hide hg
    clear hg
    by_cases hlt : k < l.length
    · obtain ⟨b, o, rfl, hb, hc⟩ := hS.kept hw k hlt
      have hsz : (l.getD k AnswerD.zero).text.size ≤ maxLen := hs _ (by simp [List.getD, hlt])
      obtain ⟨c, hck⟩ : ∃ c, c = l.getD k AnswerD.zero := ⟨_, rfl⟩
      rw [← hck] at hc hsz
      have HCK := hide hck
      clear hck
      have c0 := hc 0 _ rfl
      have c1 := hc 1 _ rfl
      simp only [Nat.add_zero] at c0
      clear hc
      go_wp2_with fail
      refine (longAnswer_any _ c hsz).mono ?_
      rintro e w1 ⟨hsay, hw1⟩
      have hw2 := hw.trans hw1
      clear c0 c1 hw hw1
      rcases hsay.cases with ⟨rfl, hyes⟩ | ⟨rfl, hno⟩
      · have HY := hide hyes
        clear hyes hsay
        go_wp2
        go_ret
        exact ⟨⟨k, rfl, Or.inl ⟨k, hlt, rfl, by rw [← HCK.out]; exact HY.out, HG.out⟩⟩, hw2⟩
      · have HN := hide hno
        clear hno hsay
        go_wp2
        go_roundw
        case rel =>
          refine ⟨k + 1, by omega, by go_num, hw2, fun j hj => ?_⟩
          by_cases e : j = k
          · subst e
            rw [← HCK.out]
            exact HN.out
          · exact HG.out j (by omega)
        case measure => simp [intOf]; omega
    · go_wp2
      go_ret
      exact ⟨⟨-1, rfl, Or.inr ⟨rfl, fun j hj => HG.out j (by omega)⟩⟩, hw⟩
set_option maxRecDepth 100000 in
set_option maxHeartbeats 800000 in
theorem indexFail (w : World) (a : Option Addr) (cap : Nat) (l : List AnswerD) (hl : l.length ≤ maxLen) (hs : ∀ c ∈ l, c.text.size ≤ maxLen) (hS : Answers w a l) :
    Calls Tryz.prog 96 #[.slice a l.length cap, .func (.func 97) #[] #[]] w fun e w' => (∃ r, e = .returned (.int .i64 r) ∧ FirstAt l IsFail r) ∧ Kept w w' := by
  unfold maxLen at hl
  go_enter Tryz.func96, Tryz.ntmps96
  go_wp2
  go_loopw [8] (fun i wr => ∃ k : Nat, k ≤ l.length ∧ i = .int .i64 k ∧ Kept w wr ∧ NoneTo l IsFail k) (fun i _ => l.length - (intOf i).toNat)
  case atStart => exact ⟨0, Nat.zero_le _, rfl, Kept.refl _, fun j hj => absurd hj (Nat.not_lt_zero _)⟩
  case round =>
    obtain ⟨k, hk, rfl, hw, hg⟩ := hrel
    have HG := hide hg
    clear hg
    by_cases hlt : k < l.length
    · obtain ⟨b, o, rfl, hb, hc⟩ := hS.kept hw k hlt
      have hsz : (l.getD k AnswerD.zero).text.size ≤ maxLen := hs _ (by simp [List.getD, hlt])
      obtain ⟨c, hck⟩ : ∃ c, c = l.getD k AnswerD.zero := ⟨_, rfl⟩
      rw [← hck] at hc hsz
      have HCK := hide hck
      clear hck
      have c0 := hc 0 _ rfl
      have c1 := hc 1 _ rfl
      simp only [Nat.add_zero] at c0
      clear hc
      go_wp2_with fail
      refine (failed_any _ c).mono ?_
      rintro e w1 ⟨hsay, hw1⟩
      have hw2 := hw.trans hw1
      clear c0 c1 hw hw1
      rcases hsay.cases with ⟨rfl, hyes⟩ | ⟨rfl, hno⟩
      · have HY := hide hyes
        clear hyes hsay
        go_wp2
        go_ret
        exact ⟨⟨k, rfl, Or.inl ⟨k, hlt, rfl, by rw [← HCK.out]; exact HY.out, HG.out⟩⟩, hw2⟩
      · have HN := hide hno
        clear hno hsay
        go_wp2
        go_roundw
        case rel =>
          refine ⟨k + 1, by omega, by go_num, hw2, fun j hj => ?_⟩
          by_cases e : j = k
          · subst e
            rw [← HCK.out]
            exact HN.out
          · exact HG.out j (by omega)
        case measure => simp [intOf]; omega
    · go_wp2
      go_ret
      exact ⟨⟨-1, rfl, Or.inr ⟨rfl, fun j hj => HG.out j (by omega)⟩⟩, hw⟩
theorem containsLong (w : World) (a : Option Addr) (cap : Nat) (l : List AnswerD) (hl : l.length ≤ maxLen) (hs : ∀ c ∈ l, c.text.size ≤ maxLen) (hS : Answers w a l) :
    Calls Tryz.prog 143 #[.slice a l.length cap, .func (.func 144) #[] #[]] w fun e w' => Says e (∃ i, i < l.length ∧ IsLong (l.getD i AnswerD.zero)) ∧ Kept w w' := by
  go_enter Tryz.func143, Tryz.ntmps143
  go_wp2_with fail
  refine (indexLong _ a cap l hl hs hS).mono ?_
  rintro e w1 ⟨⟨r, rfl, hr⟩, k1⟩
  have HR := hide hr
  clear hr
  by_cases h0 : 0 ≤ r
  · have h1 : decide (0 ≤ r) = true := by simpa using h0
    go_wp2
    go_ret
    exact ⟨Says.yes (by rcases HR.out with ⟨i, hi, _, hp, _⟩ | ⟨rfl, _⟩; exact ⟨i, hi, hp⟩; omega), k1⟩
  · have h1 : decide (0 ≤ r) = false := by simpa using h0
    go_wp2
    go_ret
    exact ⟨Says.no (by rcases HR.out with ⟨i, hi, rfl, hp, _⟩ | ⟨rfl, hno⟩; omega; exact fun ⟨i, hi, hp⟩ => hno i hi hp), k1⟩
def CaseIs (s : StepD) (t : ByteArray) (i : Nat) : Prop := (s.cases.getD i CaseD.zero).text = t
def CaseTo (s : StepD) (t : ByteArray) (k : Nat) : Prop := ∀ j, j < k → ¬ CaseIs s t j
def gotoOf (s : StepD) (i : Nat) : Int := (s.cases.getD i CaseD.zero).goto
def textAt (ans : List AnswerD) (i : Int) : ByteArray := (ans.getD i.toNat AnswerD.zero).text
def Chosen (s : StepD) (ans : List AnswerD) (r : Int) : Prop :=
  (ans.length = 0 ∧ r = s.els) ∨
  (ans.length ≠ 0 ∧ ((∃ i, i < s.cases.length ∧ CaseIs s (textAt ans s.on) i ∧ CaseTo s (textAt ans s.on) i ∧ r = gotoOf s i) ∨ (CaseTo s (textAt ans s.on) s.cases.length ∧ r = s.els)))
theorem Chosen.unique {s : StepD} {ans : List AnswerD} {r r' : Int} (h : Chosen s ans r) (h' : Chosen s ans r') : r = r' := by
  rcases h with ⟨h0, rfl⟩ | ⟨h0, ⟨i, hi, hp, hn, rfl⟩ | ⟨hn, rfl⟩⟩ <;> rcases h' with ⟨g0, rfl⟩ | ⟨g0, ⟨j, hj, gp, gn, rfl⟩ | ⟨gn, rfl⟩⟩
  all_goals first | rfl | (exfalso; omega) | skip
  · rcases Nat.lt_trichotomy i j with h | rfl | h
    · exact absurd hp (gn i h)
    · rfl
    · exact absurd gp (hn j h)
  · exact absurd hp (gn i hi)
  · exact absurd gp (hn j hj)
set_option maxRecDepth 100000 in
set_option maxHeartbeats 1600000 in
theorem choose_any (w : World) (s : StepD) (aa ac a : Option Addr) (ca cc cap : Nat) (ans : List AnswerD) (hs : s.cases.length ≤ maxLen) (hC : Cases w ac s.cases) (_hl : ans.length ≤ maxLen) (hS : Answers w a ans)
    (hon : ans.length ≠ 0 → 0 ≤ s.on ∧ s.on < ans.length) :
    Calls Tryz.prog 145 #[.agg #[.slice aa s.asks.length ca, .int .i64 s.on, .slice ac s.cases.length cc, .int .i64 s.els, .int .i64 s.fall, .bool s.fin, .bool s.bad, .string s.give], .slice a ans.length cap] w fun e w' => (∃ r, e = .returned (.int .i64 r) ∧ Chosen s ans r) ∧ Kept w w' := by
  unfold maxLen at _hl hs
  have k0 : Kept w (w.alloc (.cells #[.slice aa s.asks.length ca, .int .i64 s.on, .slice ac s.cases.length cc, .int .i64 s.els, .int .i64 s.fall, .bool s.fin, .bool s.bad, .string s.give] 183)) := (Kept.refl _).alloc _
  cases a1 : ((ans.length : Int) == 0)
  · have hne : ans.length ≠ 0 := by simp at a1; simpa using a1
    obtain ⟨o1, o2⟩ := hon hne
    clear hon
    have HNE := hide hne
    clear hne
    obtain ⟨t, htk⟩ : ∃ t, t = textAt ans s.on := ⟨_, rfl⟩
    have HTK := hide htk
    clear htk
    obtain ⟨n, hn⟩ := Int.eq_ofNat_of_zero_le o1
    have HN := hide hn
    go_enter Tryz.func145, Tryz.ntmps145
    rw [hn] at o1 o2 ⊢
    clear hn
    go_wp2
    go_loopw [17] (fun i wr => ∃ k : Nat, k ≤ s.cases.length ∧ i = .int .i64 k ∧ Kept (w.alloc (.cells #[.slice aa s.asks.length ca, .int .i64 n, .slice ac s.cases.length cc, .int .i64 s.els, .int .i64 s.fall, .bool s.fin, .bool s.bad, .string s.give] 183)) wr ∧ CaseTo s t k) (fun i _ => s.cases.length - (intOf i).toNat)
    case atStart => exact ⟨0, Nat.zero_le _, rfl, Kept.refl _, fun j hj => absurd hj (Nat.not_lt_zero _)⟩
    case round =>
      obtain ⟨k, hk, rfl, hw, hg⟩ := hrel
      have HG := hide hg
      clear hg
      have hz1 := hw.size
      simp only [World.size_alloc] at hz1
      have k1 : Kept w wr := Kept.trans ((Kept.refl _).alloc _) hw
      obtain ⟨hc1, hf1⟩ := hw.rules
      by_cases hlt : k < s.cases.length
      · obtain ⟨b, o, rfl, hb, hc⟩ := hC.kept k1 k hlt
        obtain ⟨b', o', rfl, hb', hc'⟩ := hS.kept k1 n (by omega)
        obtain ⟨c, hck⟩ : ∃ c, c = s.cases.getD k CaseD.zero := ⟨_, rfl⟩
        rw [← hck] at hc
        have HCK := hide hck
        clear hck
        have c0 := hc 0 _ rfl
        have c1 := hc 1 _ rfl
        have d1 := hc' 1 _ rfl
        simp only [Nat.add_zero] at c0
        have htn : (ans.getD n AnswerD.zero).text = t := by have h1 := HTK.out; have h2 := HN.out; unfold textAt at h1; rw [h2] at h1; exact h1.symm
        rw [htn] at d1
        clear hc hc' htn
        have z0 : w.heap.size < wr.heap.size := by omega
        have z1 : w.heap.size < wr.heap.size + 1 := by omega
        have z2 : b' < wr.heap.size + 1 := by omega
        cases hct : (c.text.toList == t.toList)
        · go_wp2
          go_region
          all_goals
            go_wp2
            go_roundw
            case rel =>
              refine ⟨k + 1, by omega, by go_num, by repeat (first | apply Kept.drew | apply Kept.alloc | exact hw), fun j hj => ?_⟩
              by_cases e : j = k
              · subst e
                unfold CaseIs
                rw [← HCK.out]
                exact bytes_ne hct
              · exact HG.out j (by omega)
            case measure => simp [intOf]; omega
        · go_wp2
          go_region
          all_goals
            go_wp2
            go_ret
            exact ⟨⟨c.goto, rfl, Or.inr ⟨HNE.out, Or.inl ⟨k, hlt, by unfold CaseIs; rw [← HCK.out, ← HTK.out]; exact bytes_eq.1 hct, by rw [← HTK.out]; exact HG.out, by unfold gotoOf; rw [← HCK.out]⟩⟩⟩, by repeat (first | apply Kept.drew | apply Kept.alloc | exact k1)⟩
      · go_wp2
        go_ret
        exact ⟨⟨s.els, rfl, Or.inr ⟨HNE.out, Or.inr ⟨by rw [← HTK.out]; exact fun j hj => HG.out j (by omega), rfl⟩⟩⟩, k1⟩
  · go_enter Tryz.func145, Tryz.ntmps145
    go_wp2
    go_ret
    exact ⟨⟨s.els, rfl, Or.inl ⟨by simp at a1; simpa using a1, rfl⟩⟩, k0⟩
def GoneD.none : GoneD := ⟨1, false, 0, ⟨#[]⟩⟩
def belowOf (s : StepD) (i : Nat) : ByteArray := (⟨#[98, 101, 108, 111, 119, 32]⟩ : ByteArray) ++ s.asks.getD i ByteArray.empty
def AnsOk (s : StepD) (ans : List AnswerD) : Prop := ans.length = s.asks.length ∧ ¬ ∃ i, i < ans.length ∧ IsLong (ans.getD i AnswerD.zero)
def Followed (s : StepD) (ans : List AnswerD) (g : GoneD) : Prop :=
  (¬ AnsOk s ans ∧ g = GoneD.none) ∨
  (AnsOk s ans ∧ ((∃ i, i < ans.length ∧ IsFail (ans.getD i AnswerD.zero) ∧ NoneTo ans IsFail i ∧ ((s.fall = -1 ∧ g = ⟨0, true, 0, belowOf s i⟩) ∨ (s.fall ≠ -1 ∧ g = ⟨0, false, s.fall, ⟨#[]⟩⟩))) ∨
    (NoneTo ans IsFail ans.length ∧ ∃ r, Chosen s ans r ∧ g = ⟨0, false, r, ⟨#[]⟩⟩)))
theorem Followed.unique {s : StepD} {ans : List AnswerD} {g g' : GoneD} (h : Followed s ans g) (h' : Followed s ans g') : g = g' := by
  rcases h with ⟨h0, rfl⟩ | ⟨h0, ⟨i, hi, hp, hn, ⟨f1, rfl⟩ | ⟨f1, rfl⟩⟩ | ⟨hn, r, hr, rfl⟩⟩ <;> rcases h' with ⟨g0, rfl⟩ | ⟨g0, ⟨j, hj, gp, gn, ⟨e1, rfl⟩ | ⟨e1, rfl⟩⟩ | ⟨gn, q, gq, rfl⟩⟩
  all_goals first | rfl | exact absurd g0 h0 | exact absurd h0 g0 | exact absurd e1 f1 | exact absurd f1 e1 | exact absurd hp (gn i hi) | exact absurd gp (hn j hj) | skip
  · rcases Nat.lt_trichotomy i j with h | rfl | h
    · exact absurd hp (gn i h)
    · rfl
    · exact absurd gp (hn j h)
  · rw [hr.unique gq]
theorem Tryz.sizeGone : (Tryz.prog.info? 141).map (·.size) = some 4 := by kernel_rfl
set_option maxRecDepth 100000 in
set_option maxHeartbeats 1600000 in
theorem qfollow_any (w : World) (s : StepD) (aa ac a : Option Addr) (ca cc cap : Nat) (ans : List AnswerD) (hs : s.Fits) (hA : Strs w aa s.asks) (hC : Cases w ac s.cases) (hl : ans.length ≤ maxLen) (hal : ∀ c ∈ ans, c.text.size ≤ maxLen) (hS : Answers w a ans)
    (hon : s.asks.length ≠ 0 → 0 ≤ s.on ∧ s.on < s.asks.length) (h20 : ∀ i, i < s.asks.length → (s.asks.getD i ByteArray.empty).size ≤ 20) :
    Calls Tryz.prog 125 #[.agg #[.slice aa s.asks.length ca, .int .i64 s.on, .slice ac s.cases.length cc, .int .i64 s.els, .int .i64 s.fall, .bool s.fin, .bool s.bad, .string s.give], .slice a ans.length cap] w fun e w' => (∃ g, e = .returned (.agg g.cells.toArray) ∧ Followed s ans g) ∧ Kept w w' := by
  have hl' := hl
  have hl2 := hs.asks
  unfold maxLen at hl' hl2
  have k0 : Kept w ((w.alloc (.cells #[.slice aa s.asks.length ca, .int .i64 s.on, .slice ac s.cases.length cc, .int .i64 s.els, .int .i64 s.fall, .bool s.fin, .bool s.bad, .string s.give] 183)).alloc (.cells #[.int .i64 0, .bool false, .int .i64 0, .string ⟨#[]⟩] 141)) := ((Kept.refl _).alloc _).alloc _
  cases a1 : ((ans.length : Int) != (s.asks.length : Int))
  · have hlen : ans.length = s.asks.length := by simp at a1; omega
    have HLEN := hide hlen
    clear hlen
    go_enter Tryz.func125, Tryz.ntmps125
    go_wp2_with fail
    refine (containsLong _ a cap ans hl hal (hS.kept k0)).mono ?_
    rintro e w1 ⟨hsay, k1⟩
    have K1 := k0.trans k1
    have hrow1 : Row w1 (w.heap.size + 1) 4 := Row.kept (by have := Row.made (w.alloc (.cells #[.slice aa s.asks.length ca, .int .i64 s.on, .slice ac s.cases.length cc, .int .i64 s.els, .int .i64 s.fall, .bool s.fin, .bool s.bad, .string s.give] 183)) #[.int .i64 0, .bool false, .int .i64 0, .string ⟨#[]⟩] 141; simpa using this) k1
    have HROW := hide hrow1
    clear hrow1
    obtain ⟨hc1, hf1⟩ := k1.rules
    have hz1 := k1.size
    simp only [World.size_alloc] at hz1
    rcases hsay.cases with ⟨rfl, hyes⟩ | ⟨rfl, hno⟩
    · have HY := hide hyes
      clear hyes hsay k0 k1
      go_wp2
      have hR := World.rangeAt_setCells_same w1 (w.heap.size + 1) 0 GoneD.none.cells (HROW.out.there (o := 0) (m := 4) (Nat.le_refl _))
      exact bodyPost_ret_cell GoneD.none.cells _ Tryz.results125 rfl hR Tryz.underlying141 rfl Tryz.sizeGone rfl ⟨⟨_, rfl, Or.inl ⟨fun h => h.2 HY.out, rfl⟩⟩, Kept.setCells (g := w.heap.size + 1) (by omega) GoneD.none.cells 0 K1⟩
    · have HN := hide hno
      clear hno hsay k0 k1
      have z0 : w.heap.size < w1.heap.size := by omega
      have z1 : w.heap.size + 1 < w1.heap.size := by omega
      go_wp2_with fail
      refine (indexFail _ a cap ans hl hal (hS.kept K1)).mono ?_
      rintro e w2 ⟨⟨r, rfl, hr⟩, k2⟩
      have K2 := K1.trans k2
      have hrow2 := HROW.out.kept k2
      have HROW2 := hide hrow2
      obtain ⟨hc2, hf2⟩ := k2.rules
      have hz2 := k2.size
      have y0 : w.heap.size < w2.heap.size := by omega
      have y1 : w.heap.size + 1 < w2.heap.size := by omega
      clear hrow2 HROW k2 K1
      have HOK : Hid (AnsOk s ans) := ⟨HLEN.out, HN.out⟩
      rcases hr with ⟨i, hi, rfl, hp, hnone⟩ | ⟨rfl, hnone⟩
      · have HP := hide hp
        have HNO := hide hnone
        clear hp hnone
        cases b1 : (s.fall == -1)
        · go_wp2
          have hR := World.rangeAt_setCells_same w2 (w.heap.size + 1) 0 [.int .i64 0, .bool false, .int .i64 s.fall, .string ⟨#[]⟩] (HROW2.out.there (o := 0) (m := 4) (Nat.le_refl _))
          exact bodyPost_ret_cell [.int .i64 0, .bool false, .int .i64 s.fall, .string ⟨#[]⟩] _ Tryz.results125 rfl hR Tryz.underlying141 rfl Tryz.sizeGone rfl ⟨⟨⟨0, false, s.fall, ⟨#[]⟩⟩, rfl, Or.inr ⟨HOK.out, Or.inl ⟨i, hi, HP.out, HNO.out, Or.inr ⟨by simpa using b1, rfl⟩⟩⟩⟩, Kept.setCells (g := w.heap.size + 1) (by omega) [.int .i64 0, .bool false, .int .i64 s.fall, .string ⟨#[]⟩] 0 K2⟩
        · obtain ⟨ba, oa, rfl, hba, hca⟩ := hA.kept K2 i (by have := HLEN.out; omega)
          have hia : i < s.asks.length := by have := HLEN.out; omega
          obtain ⟨v, hv⟩ : ∃ v, v = s.asks.getD i ByteArray.empty := ⟨_, rfl⟩
          have hv20 := h20 i hia
          rw [← hv] at hca hv20
          have HV := hide hv
          clear hv
          go_wp2
          have hR := World.rangeAt_setCells_same w2 (w.heap.size + 1) 0 [.int .i64 0, .bool true, .int .i64 0, .string ((⟨#[98, 101, 108, 111, 119, 32]⟩ : ByteArray) ++ v)] (HROW2.out.there (o := 0) (m := 4) (Nat.le_refl _))
          exact bodyPost_ret_cell [.int .i64 0, .bool true, .int .i64 0, .string ((⟨#[98, 101, 108, 111, 119, 32]⟩ : ByteArray) ++ v)] _ Tryz.results125 rfl hR Tryz.underlying141 rfl Tryz.sizeGone rfl ⟨⟨⟨0, true, 0, _⟩, rfl, Or.inr ⟨HOK.out, Or.inl ⟨i, hi, HP.out, HNO.out, Or.inl ⟨by simpa using b1, by unfold belowOf; rw [← HV.out]⟩⟩⟩⟩, Kept.setCells (g := w.heap.size + 1) (by omega) [.int .i64 0, .bool true, .int .i64 0, .string ((⟨#[98, 101, 108, 111, 119, 32]⟩ : ByteArray) ++ v)] 0 K2⟩
      · have HNO := hide hnone
        clear hnone
        go_wp2_with fail
        refine (choose_any _ s aa ac a ca cc cap ans hs.cases (hC.kept K2) hl (hS.kept K2) (fun h => by have h1 := HLEN.out; have h2 := hon (by omega); omega)).mono ?_
        rintro e w3 ⟨⟨q, rfl, hq⟩, k3⟩
        have K3 := K2.trans k3
        have hrow3 := HROW2.out.kept k3
        have HROW3 := hide hrow3
        have HQ := hide hq
        obtain ⟨hc3, hf3⟩ := k3.rules
        have hz3 := k3.size
        clear hrow3 HROW2 k3 K2 hq
        go_wp2
        have hR := World.rangeAt_setCells_same w3 (w.heap.size + 1) 0 [.int .i64 0, .bool false, .int .i64 q, .string ⟨#[]⟩] (HROW3.out.there (o := 0) (m := 4) (Nat.le_refl _))
        exact bodyPost_ret_cell [.int .i64 0, .bool false, .int .i64 q, .string ⟨#[]⟩] _ Tryz.results125 rfl hR Tryz.underlying141 rfl Tryz.sizeGone rfl ⟨⟨⟨0, false, q, ⟨#[]⟩⟩, rfl, Or.inr ⟨HOK.out, Or.inr ⟨HNO.out, q, HQ.out, rfl⟩⟩⟩, Kept.setCells (g := w.heap.size + 1) (by omega) [.int .i64 0, .bool false, .int .i64 q, .string ⟨#[]⟩] 0 K3⟩
  · go_enter Tryz.func125, Tryz.ntmps125
    go_wp2
    have hR := range_new (w.alloc (.cells #[.slice aa s.asks.length ca, .int .i64 s.on, .slice ac s.cases.length cc, .int .i64 s.els, .int .i64 s.fall, .bool s.fin, .bool s.bad, .string s.give] 183)) #[.int .i64 1, .bool false, .int .i64 0, .string ⟨#[]⟩] 141
    rw [World.size_alloc] at hR
    exact bodyPost_ret_cell GoneD.none.cells _ Tryz.results125 rfl hR Tryz.underlying141 rfl Tryz.sizeGone rfl ⟨⟨_, rfl, Or.inl ⟨fun h => by simp at a1; exact a1 (by have := h.1; omega), rfl⟩⟩, ((Kept.refl _).alloc _).alloc _⟩
theorem convBytes (w : World) (s : ByteArray) : ∃ cap C fr, (convert 9 166 (.string s)).run Tryz.prog w = .ok (.slice (some ⟨w.heap.size, 0, none⟩) s.size cap) (w.drew.alloc (.cells C 5 fr)) ∧
    ∀ j (h : j < s.size), (w.alloc (.cells C 5 fr)).cell? ⟨w.heap.size, j, none⟩ = some (.int .u8 (s[j].toNat : Int)) := by
  refine ⟨_, _, _, run_bytes_of_string (P := Tryz.prog) w 9 166 5 s Tryz.underlying9 Tryz.underlying166 Tryz.underlying5, fun j h => ?_⟩
  rw [World.cell?_alloc_mark]
  unfold bytesRow
  have h' : j < s.data.size := h
  rw [Array.getElem?_append_left (by simpa using h')]
  simp only [Array.getElem?_map, Array.getElem?_eq_getElem h', Option.map_some]
  rfl
def szStrs (l : List ByteArray) : Nat := l.length + (l.map (·.size)).sum
set_option maxHeartbeats 400000 in
theorem szStringS_any (w : World) (a : Option Addr) (cap : Nat) (l : List ByteArray) (left : Int) (hl : l.length ≤ maxLen) (hs : ∀ s ∈ l, s.size ≤ maxLen)
    (hS : Strs w a l) (h0 : 0 ≤ left) (h1 : left ≤ 1048576) :
    Calls Tryz.prog 16 #[.slice a l.length cap, .int .i64 left] w fun e w' => e = .returned (.int .i64 (szL (szStrs l) left)) ∧ w' = w := by
  unfold maxLen at hl
  go_enter Tryz.func16, Tryz.ntmps16
  go_wp2
  · go_ret
    exact ⟨ret_int (szL_neg (by unfold szStrs; omega)).symm, rfl⟩
  · go_loop [1, 5] (fun x i => ∃ k : Nat, k ≤ l.length ∧ i = .int .i64 k ∧ x = .int .i64 (left - l.length - sumTo (·.size) l k) ∧ 0 ≤ left - l.length - sumTo (·.size) l k) (fun _ i => l.length - (intOf i).toNat)
    case atStart => exact ⟨0, Nat.zero_le _, rfl, by simp [sumTo_zero], by simp [sumTo_zero]; omega⟩
    case round =>
      obtain ⟨k, hk, rfl, rfl, hge⟩ := hrel
      by_cases hlt : k < l.length
      · obtain ⟨b, o, rfl, hb, hc⟩ := hS k hlt
        have hsz : (l.getD k ByteArray.empty).size ≤ maxLen := hs _ (by simp [List.getD, hlt])
        have HS : Hid (sumTo (·.size) l (k + 1) = sumTo (·.size) l k + (l.getD k ByteArray.empty).size) := sumTo_succ _ l _ k hlt
        have HT := sumTo_le (·.size) l (k + 1)
        generalize l.getD k ByteArray.empty = s at *
        unfold maxLen at hsz
        go_wp2
        · go_ret
          exact ⟨ret_int (szL_neg (by unfold szStrs; have := HS.out; omega)).symm, rfl⟩
        · go_round
          case rel => exact ⟨k + 1, by omega, by go_num, by rw [HS.out]; go_num, by rw [HS.out]; omega⟩
          case measure => simp [intOf]; omega
      · go_wp2
        go_ret
        have : k = l.length := by omega
        subst this
        rw [sumTo_all] at hge ⊢
        exact ⟨ret_int (by rw [szL_pos (by unfold szStrs; omega)]; unfold szStrs; omega), rfl⟩
theorem eqStringS_yes (w : World) (a a' : Option Addr) (cap cap' : Nat) (l : List ByteArray) (hl : l.length ≤ maxLen)
    (hS : Strs w a l) (hS' : Strs w a' l) :
    Calls Tryz.prog 28 #[.slice a l.length cap, .slice a' l.length cap'] w fun e w' => e = .returned (.bool true) ∧ Kept w w' := by
  unfold maxLen at hl
  go_enter Tryz.func28, Tryz.ntmps28
  go_wp2
  go_loopw [5] (fun i wr => ∃ k : Nat, k ≤ l.length ∧ i = .int .i64 k ∧ Kept w wr) (fun i _ => l.length - (intOf i).toNat)
  case atStart => exact ⟨0, Nat.zero_le _, rfl, Kept.refl _⟩
  case round =>
    obtain ⟨k, hk, rfl, hw⟩ := hrel
    by_cases hlt : k < l.length
    · obtain ⟨b, o, rfl, hb, hc⟩ := hS.kept hw k hlt
      obtain ⟨b', o', rfl, hb', hc'⟩ := hS'.kept hw k hlt
      generalize l.getD k ByteArray.empty = s at *
      go_wp2
      go_region
      all_goals
        go_wp2
        go_roundw
        case rel => exact ⟨k + 1, by omega, by go_num, Below.drew hw⟩
        case measure => simp [intOf]; omega
    · go_wp2
      go_ret
      exact ⟨rfl, hw⟩
theorem Tryz.infoStr : (Tryz.prog.info? 9).map (fun i => (i.zero, i.size, i.bytes)) = some (some (.string ByteArray.empty), 1, 16) := by kernel_rfl
theorem toStringS_any (w : World) (a : Option Addr) (cap : Nat) (l : List ByteArray) (hl : l.length ≤ 1048576)
    (hS : Strs w a l) :
    Calls Tryz.prog 22 #[.slice a l.length cap] w fun e w' => ∃ b, e = .returned (.slice (some ⟨b, 0, none⟩) l.length l.length) ∧ Strs w' (some ⟨b, 0, none⟩) l ∧ Kept w w' ∧ w.heap.size ≤ b := by
  have hmk := run_make_row' (P := Tryz.prog) 25 9 _ _ Tryz.underlying25 Tryz.infoStr rfl .i64 .i64 l.length (by omega) (by omega)
  go_enter Tryz.func22, Tryz.ntmps22
  go_wp2
  clear hmk
  have hrow := World.rowIs_made w (.string ByteArray.empty) l.length 9
  have hkept : Kept w (w.alloc (.cells (madeCells #[.string ByteArray.empty] l.length) 9)) := Below.alloc (Below.refl _ _) (Nat.le_refl _) _
  go_loopw [4] (fun i wr => ∃ k : Nat, k ≤ l.length ∧ i = .int .i64 k ∧ Kept w wr ∧ (∃ f, wr.rowIs w.heap.size 9 l.length f) ∧ ∀ j, j < k → wr.cell? ⟨w.heap.size, j, none⟩ = some (.string (l.getD j ByteArray.empty))) (fun i _ => l.length - (intOf i).toNat)
  case atStart => exact ⟨0, Nat.zero_le _, rfl, hkept, ⟨_, hrow⟩, fun j hj => absurd hj (Nat.not_lt_zero _)⟩
  case round =>
    obtain ⟨k, hk, rfl, hw, ⟨f, hr⟩, hf⟩ := hrel
    clear hrow hkept
    by_cases hlt : k < l.length
    · obtain ⟨b, o, rfl, hb, hc⟩ := hS.kept hw k hlt
      have hfr := hr.frozen k
      have hold := hr.cell hlt
      have HR := hide hr
      have HF := hide hf
      clear hr hf
      generalize hs : l.getD k ByteArray.empty = s at *
      have HSs := hide hs
      clear hs
      go_wp2
      go_roundw
      case rel =>
        refine ⟨k + 1, by omega, by go_num, Below.setCell hw (Nat.le_refl _) _, ⟨_, (unhide HR).set k (.string s)⟩, fun j hj => ?_⟩
        by_cases e : j = k
        · subst e
          rw [World.cell?_setCell_same _ _ _ hold, unhide HSs]
        · rw [World.cell?_setCell_other _ _ _ _ (by simp <;> omega)]
          exact unhide HF j (by omega)
      case measure => simp [intOf]; omega
    · go_wp2
      go_ret
      have : k = l.length := by omega
      subst this
      exact ⟨w.heap.size, rfl, fun j hj => ⟨w.heap.size, 0, rfl, hr.lt, by rw [Nat.zero_add]; exact hf j hj⟩, hw, Nat.le_refl _⟩
set_option maxHeartbeats 800000 in
theorem l1NameOk_any (w : World) (s : ByteArray) (hs : s.size ≤ maxLen) :
    Calls Tryz.prog 71 #[.string s] w fun e w' => Says e (NameOk s) ∧ w' = w := by
  unfold maxLen at hs
  by_cases h1 : (1 : Int) ≤ s.size
  · by_cases h2 : (s.size : Int) ≤ 20
    · cases h3 : (s.toList == [45])
      · go_enter Tryz.func71, Tryz.ntmps71
        go_wp2
        go_loop [3] (fun i => ∃ k : Nat, k ≤ s.size ∧ i = .int .i64 k ∧ ∀ j (h : j < s.size), j < k → GoodByte s[j]) (fun i => s.size - (intOf i).toNat)
        case atStart => exact ⟨0, Nat.zero_le _, rfl, fun j _ hj => absurd hj (Nat.not_lt_zero _)⟩
        case round =>
          obtain ⟨k, hk, rfl, hg⟩ := hrel
          have HG := hide hg
          clear hg
          by_cases hlt : k < s.size
          · by_cases b1 : (s[k].toNat : Int) < 33
            · go_wp2
              go_ret
              exact ⟨Says.no fun h => by have := h.2.2.2 k hlt; unfold GoodByte at this; omega, rfl⟩
            · by_cases b2 : 126 < (s[k].toNat : Int)
              · go_wp2
                go_ret
                exact ⟨Says.no fun h => by have := h.2.2.2 k hlt; unfold GoodByte at this; omega, rfl⟩
              · cases b3 : ((s[k].toNat : Int) == 44)
                · go_wp2
                  go_round
                  case rel =>
                    refine ⟨k + 1, by omega, by go_num, fun j hj hjk => ?_⟩
                    by_cases e : j = k
                    · subst e
                      exact ⟨by omega, by omega, by simpa using b3⟩
                    · exact unhide HG j hj (by omega)
                  case measure => simp [intOf]; omega
                · go_wp2
                  go_ret
                  exact ⟨Says.no fun h => by have := h.2.2.2 k hlt; unfold GoodByte at this; simp at b3; omega, rfl⟩
          · go_wp2
            go_ret
            exact ⟨Says.yes ⟨by omega, by omega, h3, fun j hj => unhide HG j hj (by omega)⟩, rfl⟩
      · go_enter Tryz.func71, Tryz.ntmps71
        go_wp2
        go_ret
        exact ⟨Says.no fun h => by have := h.2.2.1; simp [h3] at this, rfl⟩
    · go_enter Tryz.func71, Tryz.ntmps71
      go_wp2
      go_ret
      exact ⟨Says.no fun h => by have := h.2.1; omega, rfl⟩
  · go_enter Tryz.func71, Tryz.ntmps71
    go_wp2
    go_ret
    exact ⟨Says.no fun h => by have := h.1; omega, rfl⟩
set_option maxRecDepth 100000 in
set_option maxHeartbeats 800000 in
theorem validName_any (w : World) (s : ByteArray) (hs : s.size ≤ maxLen) :
    Calls Tryz.prog 115 #[.string s] w fun e w' => Says e (NameOk s) ∧ Kept w w' := by
  unfold maxLen at hs
  by_cases h1 : (1 : Int) ≤ s.size
  · by_cases h2 : (s.size : Int) ≤ 20
    · cases h3 : (s.toList == [45])
      · obtain ⟨cap, C, fr, hconv, hcell⟩ := convBytes w s
        go_enter Tryz.func115, Tryz.ntmps115
        go_wp2
        clear hconv
        go_loopw [20] (fun i wr => ∃ k : Nat, k ≤ s.size ∧ i = .int .i64 k ∧ (∀ j (h : j < s.size), j < k → GoodByte s[j]) ∧ wr = (w.alloc (.cells C 5 fr)).drew) (fun i _ => s.size - (intOf i).toNat)
        case atStart => exact ⟨0, Nat.zero_le _, rfl, fun j _ hj => absurd hj (Nat.not_lt_zero _), rfl⟩
        case round =>
          obtain ⟨k, hk, rfl, hg, rfl⟩ := hrel
          have HG := hide hg
          clear hg
          by_cases hlt : k < s.size
          · have hc := hcell k hlt
            clear hcell
            by_cases b1 : (s[k].toNat : Int) < 33
            · go_wp2
              go_ret
              exact ⟨Says.no fun h => by have := h.2.2.2 k hlt; unfold GoodByte at this; omega, ((Kept.refl _).alloc _).drew⟩
            · by_cases b2 : 126 < (s[k].toNat : Int)
              · go_wp2
                go_ret
                exact ⟨Says.no fun h => by have := h.2.2.2 k hlt; unfold GoodByte at this; omega, ((Kept.refl _).alloc _).drew⟩
              · cases b3 : ((s[k].toNat : Int) == 44)
                · go_wp2
                  go_roundw
                  case rel =>
                    refine ⟨k + 1, by omega, by go_num, fun j hj hjk => ?_, by first | rfl | trivial⟩
                    by_cases e : j = k
                    · subst e
                      exact ⟨by omega, by omega, by simpa using b3⟩
                    · exact unhide HG j hj (by omega)
                  case measure => simp [intOf]; omega
                · go_wp2
                  go_ret
                  exact ⟨Says.no fun h => by have := h.2.2.2 k hlt; unfold GoodByte at this; simp at b3; omega, ((Kept.refl _).alloc _).drew⟩
          · go_wp2
            go_ret
            exact ⟨Says.yes ⟨by omega, by omega, h3, fun j hj => unhide HG j hj (by omega)⟩, ((Kept.refl _).alloc _).drew⟩
      · go_enter Tryz.func115, Tryz.ntmps115
        go_wp2
        go_ret
        exact ⟨Says.no fun h => by have := h.2.2.1; simp [h3] at this, Kept.refl _⟩
    · go_enter Tryz.func115, Tryz.ntmps115
      go_wp2
      go_ret
      exact ⟨Says.no fun h => by have := h.2.1; omega, Kept.refl _⟩
  · go_enter Tryz.func115, Tryz.ntmps115
    go_wp2
    go_ret
    exact ⟨Says.no fun h => by have := h.1; omega, Kept.refl _⟩
end Go.Proofs.YtjhemildijapmaaGreatDoor
