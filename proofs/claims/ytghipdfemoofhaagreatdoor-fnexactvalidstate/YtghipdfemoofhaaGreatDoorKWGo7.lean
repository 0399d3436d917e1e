import Derived.Test.YtghipdfemoofhaaGreatDoorKWNode
import Derived.Test.YtghipdfemoofhaaGreatDoorKWGo4
import Derived.Test.YtghipdfemoofhaaGreatDoorKWImpl

namespace Go.Proofs.YtghipdfemoofhaaGreatDoor
open Go.RowKit

theorem less_trans : ∀ (x y z : List UInt8), Op.bytesLess x y = true → Op.bytesLess y z = true → Op.bytesLess x z = true
  | [], [], _, h, _ => by simp [Op.bytesLess] at h
  | [], _ :: _, [], _, h => by simp [Op.bytesLess] at h
  | [], _ :: _, _ :: _, _, _ => by simp [Op.bytesLess]
  | _ :: _, [], _, h, _ => by simp [Op.bytesLess] at h
  | _ :: _, _ :: _, [], _, h => by simp [Op.bytesLess] at h
  | a :: x, b :: y, c :: z, h1, h2 => by
    have ih := less_trans x y z
    simp only [Op.bytesLess, Bool.or_eq_true, Bool.and_eq_true, decide_eq_true_eq, beq_iff_eq] at h1 h2 ⊢
    rcases h1 with h1 | ⟨rfl, h1⟩
    · rcases h2 with h2 | ⟨rfl, h2⟩
      · exact .inl (UInt8.lt_trans h1 h2)
      · exact .inl h1
    · rcases h2 with h2 | ⟨rfl, h2⟩
      · exact .inl h2
      · exact .inr ⟨rfl, ih h1 h2⟩

theorem less_irrefl : ∀ x : List UInt8, Op.bytesLess x x = false
  | [] => rfl
  | a :: x => by
    have ih := less_irrefl x
    simp [Op.bytesLess, ih]

theorem less_total : ∀ x y : List UInt8, Op.bytesLess x y = false → x ≠ y → Op.bytesLess y x = true
  | [], [], _, h => absurd rfl h
  | [], _ :: _, h, _ => by simp [Op.bytesLess] at h
  | _ :: _, [], _, _ => rfl
  | a :: x, b :: y, h, hne => by
    have ih := less_total x y
    simp only [Op.bytesLess, Bool.or_eq_false_iff, decide_eq_false_iff_not, Bool.and_eq_false_iff, beq_eq_false_iff_ne] at h
    simp only [Op.bytesLess, Bool.or_eq_true, Bool.and_eq_true, decide_eq_true_eq, beq_iff_eq]
    by_cases e : a = b
    · subst e
      right
      refine ⟨rfl, ih ?_ (fun e => hne (by rw [e]))⟩
      rcases h.2 with h2 | h2
      · exact absurd rfl h2
      · exact h2
    · left
      have h1 := h.1
      rw [UInt8.not_lt] at h1
      exact UInt8.lt_of_le_of_ne h1 (fun e' => e e'.symm)

def nameAt (l : List NodeD) (i : Nat) : List UInt8 := (l.getD i NodeD.zero).name.toList

def Rises (l : List NodeD) : Prop := ∀ i j, i < j → j < l.length → Op.bytesLess (nameAt l i) (nameAt l j) = true

theorem rises_of {l : List NodeD} (h : ∀ i, i + 1 < l.length → Op.bytesLess (nameAt l i) (nameAt l (i + 1)) = true) : Rises l := by
  intro i j hij hj
  induction j with
  | zero => omega
  | succ j ih =>
    by_cases e : i = j
    · subst e; exact h i hj
    · exact less_trans _ _ _ (ih (by omega) (by omega)) (h j hj)

structure Place (l : List NodeD) (key : List UInt8) (p : Nat) : Prop where
  le : p ≤ l.length
  before : ∀ j, j < p → Op.bytesLess (nameAt l j) key = true
  behind : ∀ j, p ≤ j → j < l.length → Op.bytesLess (nameAt l j) key = false

theorem Place.only {l : List NodeD} {key : List UInt8} {p j : Nat} (hr : Rises l) (h : Place l key p) (hj : j < l.length) (e : nameAt l j = key) : j = p := by
  by_cases h1 : j < p
  · have := h.before j h1
    rw [e, less_irrefl] at this
    cases this
  · by_cases h2 : p < j
    · have h3 := hr p j h2 hj
      rw [e] at h3
      have := h.behind p (Nat.le_refl _) (by omega)
      rw [h3] at this
      cases this
    · omega

end Go.Proofs.YtghipdfemoofhaaGreatDoor

namespace Go.Proofs.YtghipdfemoofhaaGreatDoor
open Go.RowKit

def stepAt (l : List StepD) (at' : Int) : StepD := l.getD at'.toNat StepD.zero

def FrontGo (cost : Int) (l : List StepD) (at' : Int) : Prop := ActionOk ⟨cost, l⟩ ∧ (0 ≤ at' ∧ at' < l.length) ∧ (stepAt l at').fin = false

def WentOn (cost : Int) (l : List StepD) (at' : Int) (ans : List AnswerD) (g : GoneD) : Prop :=
  (¬ FrontGo cost l at' ∧ g = GoneD.none) ∨ (FrontGo cost l at' ∧ Followed (stepAt l at') ans g)

theorem WentOn.unique {cost : Int} {l : List StepD} {at' : Int} {ans : List AnswerD} {g g' : GoneD} (h : WentOn cost l at' ans g) (h' : WentOn cost l at' ans g') : g = g' := by
  rcases h with ⟨h0, rfl⟩ | ⟨h0, h1⟩ <;> rcases h' with ⟨g0, rfl⟩ | ⟨g0, g1⟩
  · rfl
  · exact absurd g0 h0
  · exact absurd h0 g0
  · exact h1.unique g1

end Go.Proofs.YtghipdfemoofhaaGreatDoor

namespace Go.Proofs.YtghipdfemoofhaaGreatDoor
open Go.RowKit

set_option maxRecDepth 100000 in
set_option maxHeartbeats 3200000 in
theorem specGoOn_no (w : World) (cost at' : Int) (a d : Option Addr) (cap dcap : Nat) (l : List StepD) (ans : List AnswerD) (hl : l.length ≤ maxLen) (hs : ∀ s ∈ l, s.Fits) (hS : Steps w a l)
    (hal : ans.length ≤ maxLen) (_has : ∀ c ∈ ans, c.text.size ≤ maxLen) (_hD : Answers w d ans)
    (hF : Hid (¬ (FrontGo cost l at' ∧ ans.length = (stepAt l at').asks.length))) :
    Calls Tryz.prog 125 #[.agg #[.int .i64 cost, .slice a l.length cap], .int .i64 at', .slice d ans.length dcap] w fun e w' => (∃ g, e = .returned (.agg g.cells.toArray) ∧ WentOn cost l at' ans g) ∧ Kept w w' := by
  have hl' := hl
  have hal' := hal
  unfold maxLen at hl' hal'
  have k0 : Kept w ((w.alloc (.cells #[.int .i64 cost, .slice a l.length cap] 75)).alloc (.cells #[.int .i64 0, .bool false, .int .i64 0, .string ⟨#[]⟩] 173)) := ((Kept.refl _).alloc _).alloc _
  go_enter Tryz.func125, Tryz.ntmps125
  go_wp2_with fail
  refine (specValidAction_any _ cost a cap l hl hs (hS.kept k0)).mono ?_
  rintro e w1 ⟨hsay, k1⟩
  have K1 := k0.trans k1
  have hrow1 : Row w1 (w.heap.size + 1) 4 := Row.kept (by have := Row.made (w.alloc (.cells #[.int .i64 cost, .slice a l.length cap] 75)) #[.int .i64 0, .bool false, .int .i64 0, .string ⟨#[]⟩] 173; simpa using this) k1
  have HROW := hide hrow1
  clear hrow1
  obtain ⟨hc1, hf1⟩ := k1.rules
  have hz1 := k1.size
  simp only [World.size_alloc] at hz1
  have x0 : w.heap.size < w1.heap.size := by omega
  have x1 : w.heap.size + 1 < w1.heap.size := by omega
  rcases hsay.cases with ⟨rfl, hyes⟩ | ⟨rfl, hno⟩
  · have HV := hide hyes
    clear hyes hsay k0 k1
    by_cases p1 : 0 ≤ at'
    · cases p2 : decide (at' ≤ (l.length : Int) - 1)
      · have p2' : (l.length : Int) - 1 < at' := by simpa using p2
        go_wp2
        have hR := World.rangeAt_setCells_same w1 (w.heap.size + 1) 0 GoneD.none.cells (HROW.out.there (o := 0) (m := 4) (Nat.le_refl _))
        exact bodyPost_ret_cell GoneD.none.cells _ Tryz.results125 rfl hR Tryz.underlying173 rfl Tryz.sizeGone rfl ⟨⟨_, rfl, Or.inl ⟨fun h => (by have := h.2.1; omega), rfl⟩⟩, Kept.setCells (g := w.heap.size + 1) (by omega) GoneD.none.cells 0 K1⟩
      · have p2' : at' ≤ (l.length : Int) - 1 := by simpa using p2
        obtain ⟨n, rfl⟩ := Int.eq_ofNat_of_zero_le p1
        have hlt : n < l.length := by omega
        obtain ⟨b, o, cs, rfl, hb, hc, aa, ca, ac, cc, rfl, hA, hC, hca⟩ := hS.kept K1 n hlt
        have hsz := hs (l.getD n StepD.zero) (by simp [List.getD, hlt])
        obtain ⟨s, hsk⟩ : ∃ s, s = l.getD n StepD.zero := ⟨_, rfl⟩
        rw [← hsk] at hc hsz hA hC hca
        have HSK : Hid (stepAt l n = s) := by rw [hsk]; show Hid (l.getD (n : Int).toNat StepD.zero = _); rw [Int.toNat_natCast]; exact rfl
        have HOK : Hid (StepOk s l.length) := by rw [hsk]; exact HV.out.2.2 n hlt
        clear hsk
        have c0 := hc 0 _ rfl
        have c1 := hc 1 _ rfl
        have c2 := hc 2 _ rfl
        have c3 := hc 3 _ rfl
        have c4 := hc 4 _ rfl
        have c5 := hc 5 _ rfl
        have c6 := hc 6 _ rfl
        have c7 := hc 7 _ rfl
        simp only [Nat.add_zero] at c0
        clear hc
        cases hfin : s.fin
        · rw [hfin] at c5
          have HF : Hid (FrontGo cost l n) := ⟨HV.out, ⟨by omega, by omega⟩, by rw [HSK.out]; exact hfin⟩
          have hne : ans.length ≠ s.asks.length := fun h => hF.out ⟨HF.out, by rw [HSK.out]; exact h⟩
          have hneq : ((ans.length : Int) != (s.asks.length : Int)) = true := by simp; omega
          have HNE := hide hne
          clear hne
          go_wp2
          have hR := World.rangeAt_setCells_same w1 (w.heap.size + 1) 0 GoneD.none.cells (HROW.out.there (o := 0) (m := 4) (Nat.le_refl _))
          exact bodyPost_ret_cell GoneD.none.cells _ Tryz.results125 rfl hR Tryz.underlying173 rfl Tryz.sizeGone rfl ⟨⟨_, rfl, Or.inr ⟨HF.out, Or.inl ⟨fun h => HNE.out (by have := h.1; rw [HSK.out] at this; exact this), rfl⟩⟩⟩, Kept.setCells (g := w.heap.size + 1) (by omega) GoneD.none.cells 0 K1⟩
        · rw [hfin] at c5
          go_wp2
          have hR := World.rangeAt_setCells_same w1 (w.heap.size + 1) 0 GoneD.none.cells (HROW.out.there (o := 0) (m := 4) (Nat.le_refl _))
          exact bodyPost_ret_cell GoneD.none.cells _ Tryz.results125 rfl hR Tryz.underlying173 rfl Tryz.sizeGone rfl ⟨⟨_, rfl, Or.inl ⟨fun h => (by have := h.2.2; rw [HSK.out, hfin] at this; cases this), rfl⟩⟩, Kept.setCells (g := w.heap.size + 1) (by omega) GoneD.none.cells 0 K1⟩
    · skip
      go_wp2
      have hR := World.rangeAt_setCells_same w1 (w.heap.size + 1) 0 GoneD.none.cells (HROW.out.there (o := 0) (m := 4) (Nat.le_refl _))
      exact bodyPost_ret_cell GoneD.none.cells _ Tryz.results125 rfl hR Tryz.underlying173 rfl Tryz.sizeGone rfl ⟨⟨_, rfl, Or.inl ⟨fun h => (by have := h.2.1; omega), rfl⟩⟩, Kept.setCells (g := w.heap.size + 1) (by omega) GoneD.none.cells 0 K1⟩
  · have HV := hide hno
    clear hno hsay k0 k1
    go_wp2
    have hR := World.rangeAt_setCells_same w1 (w.heap.size + 1) 0 GoneD.none.cells (HROW.out.there (o := 0) (m := 4) (Nat.le_refl _))
    exact bodyPost_ret_cell GoneD.none.cells _ Tryz.results125 rfl hR Tryz.underlying173 rfl Tryz.sizeGone rfl ⟨⟨_, rfl, Or.inl ⟨fun h => HV.out h.1, rfl⟩⟩, Kept.setCells (g := w.heap.size + 1) (by omega) GoneD.none.cells 0 K1⟩

end Go.Proofs.YtghipdfemoofhaaGreatDoor

namespace Go.Proofs.YtghipdfemoofhaaGreatDoor
open Go.RowKit

set_option maxRecDepth 100000 in
set_option maxHeartbeats 6400000 in
theorem specGoOn_yes (w : World) (cost at' : Int) (a d : Option Addr) (cap dcap : Nat) (l : List StepD) (ans : List AnswerD) (hl : l.length ≤ maxLen) (hs : ∀ s ∈ l, s.Fits) (hS : Steps w a l)
    (hal : ans.length ≤ maxLen) (has : ∀ c ∈ ans, c.text.size ≤ maxLen) (hD : Answers w d ans)
    (hF : FrontGo cost l at') (hE : ans.length = (stepAt l at').asks.length) :
    Calls Tryz.prog 125 #[.agg #[.int .i64 cost, .slice a l.length cap], .int .i64 at', .slice d ans.length dcap] w fun e w' => (∃ g, e = .returned (.agg g.cells.toArray) ∧ WentOn cost l at' ans g) ∧ Kept w w' := by
  have HF0 := hide hF
  have HE0 := hide hE
  clear hF hE
  have hl' := hl
  have hal' := hal
  unfold maxLen at hl' hal'
  have k0 : Kept w ((w.alloc (.cells #[.int .i64 cost, .slice a l.length cap] 75)).alloc (.cells #[.int .i64 0, .bool false, .int .i64 0, .string ⟨#[]⟩] 173)) := ((Kept.refl _).alloc _).alloc _
  go_enter Tryz.func125, Tryz.ntmps125
  go_wp2_with fail
  refine (specValidAction_any _ cost a cap l hl hs (hS.kept k0)).mono ?_
  rintro e w1 ⟨hsay, k1⟩
  have K1 := k0.trans k1
  have hrow1 : Row w1 (w.heap.size + 1) 4 := Row.kept (by have := Row.made (w.alloc (.cells #[.int .i64 cost, .slice a l.length cap] 75)) #[.int .i64 0, .bool false, .int .i64 0, .string ⟨#[]⟩] 173; simpa using this) k1
  have HROW := hide hrow1
  clear hrow1
  obtain ⟨hc1, hf1⟩ := k1.rules
  have hz1 := k1.size
  simp only [World.size_alloc] at hz1
  have x0 : w.heap.size < w1.heap.size := by omega
  have x1 : w.heap.size + 1 < w1.heap.size := by omega
  rcases hsay.cases with ⟨rfl, hyes⟩ | ⟨rfl, hno⟩
  · have HV := hide hyes
    clear hyes hsay k0 k1
    have p1 : 0 ≤ at' := HF0.out.2.1.1
    have p2 : at' < l.length := HF0.out.2.1.2
    obtain ⟨n, rfl⟩ := Int.eq_ofNat_of_zero_le p1
    have hlt : n < l.length := by omega
    obtain ⟨b, o, cs, rfl, hb, hc, aa, ca, ac, cc, rfl, hA, hC, hca⟩ := hS.kept K1 n hlt
    have hsz := hs (l.getD n StepD.zero) (by simp [List.getD, hlt])
    obtain ⟨s, hsk⟩ : ∃ s, s = l.getD n StepD.zero := ⟨_, rfl⟩
    rw [← hsk] at hc hsz hA hC hca
    have HSK : Hid (stepAt l n = s) := by rw [hsk]; show Hid (l.getD (n : Int).toNat StepD.zero = _); rw [Int.toNat_natCast]; exact rfl
    have HOK : Hid (StepOk s l.length) := by rw [hsk]; exact HV.out.2.2 n hlt
    clear hsk
    have c0 := hc 0 _ rfl
    have c1 := hc 1 _ rfl
    have c2 := hc 2 _ rfl
    have c3 := hc 3 _ rfl
    have c4 := hc 4 _ rfl
    have c5 := hc 5 _ rfl
    have c6 := hc 6 _ rfl
    have c7 := hc 7 _ rfl
    simp only [Nat.add_zero] at c0
    clear hc
    have hfin : s.fin = false := by have := HF0.out.2.2; rw [HSK.out] at this; exact this
    rw [hfin] at c5
    have HLEN : Hid (ans.length = s.asks.length) := by have := HE0.out; rw [HSK.out] at this; exact this
    have hneq : ((ans.length : Int) != (s.asks.length : Int)) = false := by have := HLEN.out; simp; omega
    have HF : Hid (FrontGo cost l n) := HF0.out
    have HAK : Hid (AskOk s l.length) := HOK.out.2 hfin
    clear HF0 HE0
    have kA : Kept w1 (w1.alloc (.cells #[.slice aa s.asks.length ca, .int .i64 s.on, .slice ac s.cases.length cc, .int .i64 s.els, .int .i64 s.fall, .bool false, .bool s.bad, .string s.give] 99)) := (Kept.refl _).alloc _
    have K2 := K1.trans kA
    have HROW2 := hide (HROW.out.kept kA)
    go_wp2_with (go_at_call 100; refine (l1In_yes _ _ _ _ (by omega) (by omega)).mono ?_; rintro e w' ⟨rfl, hw'⟩; have hw'' := Eq.symm hw'; clear hw'; subst hw'')
    clear c0 c1 c2 c3 c4 c5 c6 c7
    go_loop [8] (fun i => ∃ k : Nat, k ≤ ans.length ∧ i = .int .i64 k ∧ NoneTo ans IsLong k) (fun i => ans.length - (intOf i).toNat)
    case atStart => exact ⟨0, Nat.zero_le _, rfl, fun j hj => absurd hj (Nat.not_lt_zero _)⟩
    case round =>
      obtain ⟨k, hk, rfl, hg⟩ := hrel
      have HG := hide hg
      clear hg
      by_cases hlt1 : k < ans.length
      · obtain ⟨b1, o1, rfl, hb1, hd⟩ := hD.kept K2 k hlt1
        have hsz1 : (ans.getD k AnswerD.zero).text.size ≤ maxLen := has _ (by simp [List.getD, hlt1])
        obtain ⟨c, hck⟩ : ∃ c, c = ans.getD k AnswerD.zero := ⟨_, rfl⟩
        rw [← hck] at hd hsz1
        have HCK := hide hck
        clear hck
        unfold maxLen at hsz1
        have d1 := hd 1 _ rfl
        clear hd
        by_cases hlong : (200 : Int) < c.text.size
        · skip
          go_wp2
          have hR := World.rangeAt_alloc (World.rangeAt_setCells_same w1 (w.heap.size + 1) 0 GoneD.none.cells (HROW.out.there (o := 0) (m := 4) (Nat.le_refl _))) (.cells #[.slice aa s.asks.length ca, .int .i64 s.on, .slice ac s.cases.length cc, .int .i64 s.els, .int .i64 s.fall, .bool false, .bool s.bad, .string s.give] 99)
          exact bodyPost_ret_cell GoneD.none.cells _ Tryz.results125 rfl hR Tryz.underlying173 rfl Tryz.sizeGone rfl ⟨⟨_, rfl, Or.inr ⟨HF.out, by rw [HSK.out]; exact Or.inl ⟨fun h => h.2 ⟨k, hlt1, by unfold IsLong; rw [← HCK.out]; omega⟩, rfl⟩⟩⟩, Kept.alloc (Kept.setCells (g := w.heap.size + 1) (by omega) GoneD.none.cells 0 K1) _⟩
        · go_wp2
          go_round
          case rel =>
            refine ⟨k + 1, by omega, by go_num, fun j hj => ?_⟩
            by_cases e : j = k
            · subst e
              unfold IsLong
              rw [← HCK.out]
              omega
            · exact HG.out j (by omega)
          case measure => simp [intOf]; omega
      · have HAO : Hid (AnsOk s ans) := ⟨HLEN.out, fun ⟨i, hi, h⟩ => HG.out i (by omega) h⟩
        clear HG
        go_wp2
        go_loop [9] (fun i => ∃ k : Nat, k ≤ ans.length ∧ i = .int .i64 k ∧ NoneTo ans IsFail k) (fun i => ans.length - (intOf i).toNat)
        case atStart => exact ⟨0, Nat.zero_le _, rfl, fun j hj => absurd hj (Nat.not_lt_zero _)⟩
        case round =>
          clear hk hlt1
          obtain ⟨k, hk, rfl, hg⟩ := hrel
          have HG := hide hg
          clear hg
          by_cases hlt2 : k < ans.length
          · obtain ⟨b1, o1, rfl, hb1, hd⟩ := hD.kept K2 k hlt2
            obtain ⟨c, hck⟩ : ∃ c, c = ans.getD k AnswerD.zero := ⟨_, rfl⟩
            rw [← hck] at hd
            have HCK := hide hck
            clear hck
            have d0 := hd 0 _ rfl
            simp only [Nat.add_zero] at d0
            clear hd
            cases hcf : c.fail
            · rw [hcf] at d0
              go_wp2
              go_round
              case rel =>
                refine ⟨k + 1, by omega, by go_num, fun j hj => ?_⟩
                by_cases e : j = k
                · subst e
                  unfold IsFail
                  rw [← HCK.out, hcf]
                  simp
                · exact HG.out j (by omega)
              case measure => simp [intOf]; omega
            · rw [hcf] at d0
              have HP : Hid (IsFail (ans.getD k AnswerD.zero)) := by rw [← HCK.out]; exact hcf
              cases b5 : (s.fall == -1)
              · skip
                go_wp2
                have hR := World.rangeAt_alloc (World.rangeAt_setCells_same w1 (w.heap.size + 1) 0 [.int .i64 0, .bool false, .int .i64 s.fall, .string ⟨#[]⟩] (HROW.out.there (o := 0) (m := 4) (Nat.le_refl _))) (.cells #[.slice aa s.asks.length ca, .int .i64 s.on, .slice ac s.cases.length cc, .int .i64 s.els, .int .i64 s.fall, .bool false, .bool s.bad, .string s.give] 99)
                exact bodyPost_ret_cell [.int .i64 0, .bool false, .int .i64 s.fall, .string ⟨#[]⟩] _ Tryz.results125 rfl hR Tryz.underlying173 rfl Tryz.sizeGone rfl ⟨⟨⟨0, false, s.fall, ⟨#[]⟩⟩, rfl, Or.inr ⟨HF.out, by rw [HSK.out]; exact Or.inr ⟨HAO.out, Or.inl ⟨k, hlt2, HP.out, HG.out, Or.inr ⟨by simpa using b5, rfl⟩⟩⟩⟩⟩, Kept.alloc (Kept.setCells (g := w.heap.size + 1) (by omega) [.int .i64 0, .bool false, .int .i64 s.fall, .string ⟨#[]⟩] 0 K1) _⟩
              · have hia : k < s.asks.length := by have := HLEN.out; omega
                obtain ⟨b6, o6, rfl, hb6, ha6⟩ := hA.kept kA k hia
                have hv20 : (s.asks.getD k ByteArray.empty).size ≤ 20 := (HAK.out.1.2.2.2.1 k hia).1.2.1
                obtain ⟨v, hv⟩ : ∃ v, v = s.asks.getD k ByteArray.empty := ⟨_, rfl⟩
                rw [← hv] at ha6 hv20
                have HV2 := hide hv
                clear hv
                go_wp2
                have hR := World.rangeAt_setCells_same w1 (w.heap.size + 1) 0 [.int .i64 0, .bool true, .int .i64 0, .string ((⟨#[98, 101, 108, 111, 119, 32]⟩ : ByteArray) ++ v)] (HROW.out.there (o := 0) (m := 4) (Nat.le_refl _))
                exact bodyPost_ret_cell [.int .i64 0, .bool true, .int .i64 0, .string ((⟨#[98, 101, 108, 111, 119, 32]⟩ : ByteArray) ++ v)] _ Tryz.results125 rfl (World.rangeAt_alloc hR _) Tryz.underlying173 rfl Tryz.sizeGone rfl ⟨⟨⟨0, true, 0, _⟩, rfl, Or.inr ⟨HF.out, by rw [HSK.out]; exact Or.inr ⟨HAO.out, Or.inl ⟨k, hlt2, HP.out, HG.out, Or.inl ⟨by simpa using b5, by unfold belowOf; rw [← HV2.out]⟩⟩⟩⟩⟩, Kept.alloc (Kept.setCells (g := w.heap.size + 1) (by omega) [.int .i64 0, .bool true, .int .i64 0, .string ((⟨#[98, 101, 108, 111, 119, 32]⟩ : ByteArray) ++ v)] 0 K1) _⟩
          · have HNF : Hid (NoneTo ans IsFail ans.length) := fun j hj => HG.out j (by omega)
            clear HG
            cases a9 : ((ans.length : Int) == 0)
            · have hne : ans.length ≠ 0 := by simp at a9; simpa using a9
              have HNE := hide hne
              have hon : 0 ≤ s.on ∧ s.on < ans.length := by have h1 := HAK.out.1.2.2.2.2.2.2.2; have h2 := HLEN.out; omega
              obtain ⟨q1, q2⟩ := hon
              clear hne
              obtain ⟨t, htk⟩ : ∃ t, t = textAt ans s.on := ⟨_, rfl⟩
              have HTK := hide htk
              clear htk
              have hm2 : s.on.toNat < ans.length := by omega
              have hcl := hsz.cases
              unfold maxLen at hcl
              go_wp2
              go_loopw [10] (fun i wr => ∃ k : Nat, k ≤ s.cases.length ∧ i = .int .i64 k ∧ Kept (w1.alloc (.cells #[.slice aa s.asks.length ca, .int .i64 s.on, .slice ac s.cases.length cc, .int .i64 s.els, .int .i64 s.fall, .bool false, .bool s.bad, .string s.give] 99)) wr ∧ CaseTo s t k) (fun i _ => s.cases.length - (intOf i).toNat)
              case atStart => exact ⟨0, Nat.zero_le _, rfl, Kept.refl _, fun j hj => absurd hj (Nat.not_lt_zero _)⟩
              case round =>
                obtain ⟨k, hk, rfl, hw, hg⟩ := hrel
                have HG := hide hg
                clear hg
                have k3 : Kept w wr := K2.trans hw
                obtain ⟨hc3, hf3⟩ := hw.rules
                have hz3 := hw.size
                simp only [World.size_alloc] at hz3
                have HROW3 := hide (HROW2.out.kept hw)
                have v0 : w.heap.size + 1 < w1.heap.size + 1 := by omega
                have v1 : w1.heap.size < w1.heap.size + 1 := by omega
                by_cases hlt3 : k < s.cases.length
                · obtain ⟨b3, o3, rfl, hb3, hcc⟩ := (hC.kept kA).kept hw k hlt3
                  obtain ⟨b4, o4, e4, hb4, hd4⟩ := hD.kept k3 s.on.toNat hm2
                  obtain ⟨c, hck⟩ : ∃ c, c = s.cases.getD k CaseD.zero := ⟨_, rfl⟩
                  rw [← hck] at hcc
                  have HCK := hide hck
                  clear hck
                  have g0 := hcc 0 _ rfl
                  have g1 := hcc 1 _ rfl
                  have d1 := hd4 1 _ rfl
                  simp only [Nat.add_zero] at g0
                  have htn : (ans.getD s.on.toNat AnswerD.zero).text = t := by have h1 := HTK.out; unfold textAt at h1; exact h1.symm
                  rw [htn] at d1
                  subst e4
                  clear hcc hd4 htn
                  cases hct : (c.text.toList == t.toList)
                  · go_wp2
                    go_region
                    all_goals
                      go_wp2
                      go_roundw
                      case rel =>
                        refine ⟨k + 1, by omega, by go_num, by repeat (first | apply Kept.drew | exact hw), fun j hj => ?_⟩
                        by_cases e : j = k
                        · subst e
                          unfold CaseIs
                          rw [← HCK.out]
                          exact bytes_ne hct
                        · exact HG.out j (by omega)
                      case measure => simp [intOf]; omega
                  · go_wp2
                    go_region
                    all_goals
                      go_wp2
                      have hR := World.rangeAt_setCells_same wr.drew (w.heap.size + 1) 0 [.int .i64 0, .bool false, .int .i64 c.goto, .string ⟨#[]⟩] (Row.there (Row.kept HROW3.out (Kept.drew (Kept.refl _))) (o := 0) (m := 4) (Nat.le_refl _))
                      exact bodyPost_ret_cell [.int .i64 0, .bool false, .int .i64 c.goto, .string ⟨#[]⟩] _ Tryz.results125 rfl hR Tryz.underlying173 rfl Tryz.sizeGone rfl ⟨⟨⟨0, false, c.goto, ⟨#[]⟩⟩, rfl, Or.inr ⟨HF.out, by rw [HSK.out]; exact Or.inr ⟨HAO.out, Or.inr ⟨HNF.out, c.goto, Or.inr ⟨HNE.out, Or.inl ⟨k, hlt3, by unfold CaseIs; rw [← HCK.out, ← HTK.out]; exact bytes_eq.1 hct, by rw [← HTK.out]; exact HG.out, by unfold gotoOf; rw [← HCK.out]⟩⟩, rfl⟩⟩⟩⟩, Kept.setCells (g := w.heap.size + 1) (by omega) [.int .i64 0, .bool false, .int .i64 c.goto, .string ⟨#[]⟩] 0 k3.drew⟩
                · skip
                  go_wp2
                  have hR := World.rangeAt_setCells_same wr (w.heap.size + 1) 0 [.int .i64 0, .bool false, .int .i64 s.els, .string ⟨#[]⟩] (HROW3.out.there (o := 0) (m := 4) (Nat.le_refl _))
                  exact bodyPost_ret_cell [.int .i64 0, .bool false, .int .i64 s.els, .string ⟨#[]⟩] _ Tryz.results125 rfl hR Tryz.underlying173 rfl Tryz.sizeGone rfl ⟨⟨⟨0, false, s.els, ⟨#[]⟩⟩, rfl, Or.inr ⟨HF.out, by rw [HSK.out]; exact Or.inr ⟨HAO.out, Or.inr ⟨HNF.out, s.els, Or.inr ⟨HNE.out, Or.inr ⟨by rw [← HTK.out]; exact fun j hj => HG.out j (by omega), rfl⟩⟩, rfl⟩⟩⟩⟩, Kept.setCells (g := w.heap.size + 1) (by omega) [.int .i64 0, .bool false, .int .i64 s.els, .string ⟨#[]⟩] 0 k3⟩
            · skip
              go_wp2
              have hR := World.rangeAt_alloc (World.rangeAt_setCells_same w1 (w.heap.size + 1) 0 [.int .i64 0, .bool false, .int .i64 s.els, .string ⟨#[]⟩] (HROW.out.there (o := 0) (m := 4) (Nat.le_refl _))) (.cells #[.slice aa s.asks.length ca, .int .i64 s.on, .slice ac s.cases.length cc, .int .i64 s.els, .int .i64 s.fall, .bool false, .bool s.bad, .string s.give] 99)
              exact bodyPost_ret_cell [.int .i64 0, .bool false, .int .i64 s.els, .string ⟨#[]⟩] _ Tryz.results125 rfl hR Tryz.underlying173 rfl Tryz.sizeGone rfl ⟨⟨⟨0, false, s.els, ⟨#[]⟩⟩, rfl, Or.inr ⟨HF.out, by rw [HSK.out]; exact Or.inr ⟨HAO.out, Or.inr ⟨HNF.out, s.els, Or.inl ⟨by simp at a9; simpa using a9, rfl⟩, rfl⟩⟩⟩⟩, Kept.alloc (Kept.setCells (g := w.heap.size + 1) (by omega) [.int .i64 0, .bool false, .int .i64 s.els, .string ⟨#[]⟩] 0 K1) _⟩
  · exact absurd HF0.out.1 hno

end Go.Proofs.YtghipdfemoofhaaGreatDoor
