import Derived.Test.YtmdckapiljhfdaaGreatWImpl

/-
  THE WALK over the program's soundAsks.
-/
namespace Go.Proofs.YtmdckapiljhfdaaGreat
open Go.RowKit

theorem Strs.take {w : World} {a : Option Addr} {l : List ByteArray} (h : Strs w a l) (k : Nat) : Strs w a (l.take k) := by
  intro i hi
  have hi' : i < l.length := by simp at hi; omega
  have hk : i < k := by simp at hi; omega
  obtain ⟨b, o, ha, hb, hc⟩ := h i hi'
  refine ⟨b, o, ha, hb, ?_⟩
  rw [hc]
  simp [List.getD, hk]

theorem has_take {l : List ByteArray} {k : Nat} (hk : k ≤ l.length) {v : ByteArray} : Has (l.take k) v ↔ ∃ i, i < k ∧ l.getD i ByteArray.empty = v := by
  unfold Has
  constructor
  · rintro ⟨i, hi, e⟩
    have hk' : i < k := by simp at hi; omega
    exact ⟨i, hk', by rw [← e]; simp [List.getD, hk']⟩
  · rintro ⟨i, hi, e⟩
    exact ⟨i, by simp; omega, by rw [← e]; simp [List.getD, hi]⟩

theorem contains_take (w : World) (a : Option Addr) (cap k : Nat) (l : List ByteArray) (v : ByteArray) (hl : l.length ≤ maxLen) (hk : k ≤ l.length) (hS : Strs w a l) :
    Calls Tryz.prog 61 #[.slice a k cap, .string v] w fun e w' => Says e (∃ i, i < k ∧ l.getD i ByteArray.empty = v) ∧ w' = w := by
  have e : (l.take k).length = k := by simp; omega
  have := contains_any w a cap (l.take k) v (by rw [e]; omega) (hS.take k)
  rw [e] at this
  exact this.mono fun e w' ⟨h, hw⟩ => ⟨h.congr (has_take hk), hw⟩

def AsksOk (s : StepD) : Prop := s.asks.length ≤ 5 ∧ NamesOk s.asks ∧ (s.on = 0 ∨ (0 ≤ s.on ∧ s.on < s.asks.length))

def NameOkAt (l : List ByteArray) (j : Nat) : Prop := NameOk (l.getD j ByteArray.empty) ∧ ∀ m, m < j → l.getD m ByteArray.empty ≠ l.getD j ByteArray.empty

set_option maxRecDepth 100000 in
set_option maxHeartbeats 1600000 in
theorem soundAsks_any (w : World) (s : StepD) (aa ac : Option Addr) (ca cc : Nat) (hs : s.Fits) (hA : Strs w aa s.asks) (hca : s.asks.length ≤ ca) :
    Calls Tryz.prog 114 #[.agg #[.slice aa s.asks.length ca, .int .i64 s.on, .slice ac s.cases.length cc, .int .i64 s.els, .int .i64 s.fall, .bool s.fin, .bool s.bad, .string s.give]] w fun e w' => Says e (AsksOk s) ∧ Kept w w' := by
  have h1 := hs.asks
  unfold maxLen at h1
  have k0 : Kept w (w.alloc (.cells #[.slice aa s.asks.length ca, .int .i64 s.on, .slice ac s.cases.length cc, .int .i64 s.els, .int .i64 s.fall, .bool s.fin, .bool s.bad, .string s.give] 150)) := (Kept.refl _).alloc _
  by_cases a1 : (s.asks.length : Int) ≤ 5
  · go_enter Tryz.func114, Tryz.ntmps114
    go_wp2
    go_loopw [14] (fun i wr => ∃ k : Nat, k ≤ s.asks.length ∧ i = .int .i64 k ∧ Kept (w.alloc (.cells #[.slice aa s.asks.length ca, .int .i64 s.on, .slice ac s.cases.length cc, .int .i64 s.els, .int .i64 s.fall, .bool s.fin, .bool s.bad, .string s.give] 150)) wr ∧ ∀ j, j < k → NameOkAt s.asks j) (fun i _ => s.asks.length - (intOf i).toNat)
    case atStart => exact ⟨0, Nat.zero_le _, rfl, Kept.refl _, fun j hj => absurd hj (Nat.not_lt_zero _)⟩
    case round =>
      obtain ⟨k, hk, rfl, hw, hg⟩ := hrel
      have HG := hide hg
      clear hg
      have hz1 := hw.size
      simp only [World.size_alloc] at hz1
      by_cases hlt : k < s.asks.length
      · obtain ⟨b, o, rfl, hb, hc⟩ := (hA.kept k0).kept hw k hlt
        have hsz : (s.asks.getD k ByteArray.empty).size ≤ maxLen := hs.askEach _ (by simp [List.getD, hlt])
        obtain ⟨v, hvk⟩ : ∃ v, v = s.asks.getD k ByteArray.empty := ⟨_, rfl⟩
        rw [← hvk] at hc hsz
        have HVK := hide hvk
        clear hvk
        go_wp2_with fail
        refine (validName_any _ v hsz).mono ?_
        rintro e w1 ⟨hsay, hw1⟩
        have hw2 := hw.trans hw1
        have hA1 := (hA.kept k0).kept hw2
        clear hc hb
        rcases hsay.cases with ⟨rfl, hyes⟩ | ⟨rfl, hno⟩
        · have HY := hide hyes
          clear hyes hsay hw hw1
          obtain ⟨hc1, hf1⟩ := hw2.rules
          have hkc : k ≤ ca := by omega
          go_wp2_with fail
          refine (contains_take _ _ ca k s.asks v hs.asks (by omega) hA1).mono ?_
          rintro e w2 ⟨hsay, rfl⟩
          rcases hsay.cases with ⟨rfl, hyes⟩ | ⟨rfl, hno⟩
          · have HN := hide hyes
            clear hyes hsay hA1 hc1 hf1
            go_wp2
            go_ret
            exact ⟨Says.no fun h => by obtain ⟨i, hi, e⟩ := HN.out; exact (h.2.1 k hlt).2 i hi (by rw [e, HVK.out]), k0.trans hw2⟩
          · have HN := hide hno
            clear hno hsay hA1 hc1 hf1
            go_wp2
            go_roundw
            case rel =>
              refine ⟨k + 1, by omega, by go_num, hw2, fun j hj => ?_⟩
              by_cases e : j = k
              · subst e
                exact ⟨by rw [← HVK.out]; exact HY.out, fun m hm h => HN.out ⟨m, hm, by rw [h, HVK.out]⟩⟩
              · exact unhide HG j (by omega)
            case measure => simp [intOf]; omega
        · have HN := hide hno
          clear hno hsay hw hw1
          go_wp2
          go_ret
          exact ⟨Says.no fun h => HN.out (by rw [HVK.out]; exact (h.2.1 k hlt).1), k0.trans hw2⟩
      · obtain ⟨hc1, hf1⟩ := hw.rules
        have hnames : Hid (NamesOk s.asks) := fun j hj => unhide HG j (by omega)
        clear HG
        go_wp2
        · go_ret
          exact ⟨(Says.dec _).congr ⟨fun h => ⟨by omega, hnames.out, by omega⟩, fun h => by have := h.2.2; omega⟩, k0.trans hw⟩
        · go_ret
          exact ⟨(Says.dec _).congr ⟨fun h => ⟨by omega, hnames.out, by omega⟩, fun h => by have := h.2.2; omega⟩, k0.trans hw⟩
        all_goals
          go_ret
          exact ⟨Says.no fun h => by have := h.2.2; omega, k0.trans hw⟩
  · go_enter Tryz.func114, Tryz.ntmps114
    go_wp2
    go_ret
    exact ⟨Says.no fun h => by have := h.1; omega, k0⟩

end Go.Proofs.YtmdckapiljhfdaaGreat
