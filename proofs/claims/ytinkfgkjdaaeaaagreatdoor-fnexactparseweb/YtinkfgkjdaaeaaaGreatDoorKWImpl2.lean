import Derived.Test.YtinkfgkjdaaeaaaGreatDoorProg
import Derived.Test.YtinkfgkjdaaeaaaGreatDoorKOMarkD
import Derived.WalkSpells
import Derived.Laws.IdiomStrings
import Derived.WalkLawsBesides
import Derived.WalkKit
import Derived.Deep.OwnRows

namespace Go.Proofs.YtinkfgkjdaaeaaaGreatDoor
open Go.RowKit

theorem convBytes (w : World) (s : ByteArray) : ∃ cap C fr, (convert 9 63 (.string s)).run Tryz.prog w = .ok (.slice (some ⟨w.heap.size, 0, none⟩) s.size cap) (w.drew.alloc (.cells C 5 fr)) ∧
    ∀ j (h : j < s.size), (w.alloc (.cells C 5 fr)).cell? ⟨w.heap.size, j, none⟩ = some (.int .u8 (s[j].toNat : Int)) := by
  refine ⟨_, _, _, run_bytes_of_string (P := Tryz.prog) w 9 63 5 s Tryz.underlying9 Tryz.underlying63 Tryz.underlying5, fun j h => ?_⟩
  rw [World.cell?_alloc_mark]
  unfold bytesRow
  have h' : j < s.data.size := h
  rw [Array.getElem?_append_left (by simpa using h')]
  simp only [Array.getElem?_map, Array.getElem?_eq_getElem h', Option.map_some]
  rfl

end Go.Proofs.YtinkfgkjdaaeaaaGreatDoor

namespace Go.Proofs.YtinkfgkjdaaeaaaGreatDoor
open Go.RowKit

theorem eqStringS_yes (w : World) (a a' : Option Addr) (cap cap' : Nat) (l : List ByteArray) (hl : l.length ≤ maxLen)
    (hS : Strs w a l) (hS' : Strs w a' l) :
    Calls Tryz.prog 119 #[.slice a l.length cap, .slice a' l.length cap'] w fun e w' => e = .returned (.bool true) ∧ Kept w w' := by
  unfold maxLen at hl
  go_enter Tryz.func119, Tryz.ntmps119
  go_wp2
  go_loopw [5] (fun i wr => ∃ k : Nat, k ≤ l.length ∧ i = .int .i64 k ∧ Kept w wr) (fun i _ => l.length - (intOf i).toNat)
  case atStart => exact ⟨0, Nat.zero_le _, rfl, Kept.refl _⟩
  case round =>
    obtain ⟨k, hk, rfl, hw⟩ := hrel
    by_cases hlt : k < l.length
    · obtain ⟨b, o, rfl, hb, hc⟩ := hS.kept hw k hlt
      obtain ⟨b', o', rfl, hb', hc'⟩ := hS'.kept hw k hlt
      generalize l.getD k ByteArray.empty = s at *
      go_wp2
      go_region
      all_goals
        go_wp2
        go_roundw
        case rel => exact ⟨k + 1, by omega, by go_num, Below.drew hw⟩
        case measure => simp [intOf]; omega
    · go_wp2
      go_ret
      exact ⟨rfl, hw⟩

theorem Tryz.infoStr : (Tryz.prog.info? 9).map (fun i => (i.zero, i.size, i.bytes)) = some (some (.string ByteArray.empty), 1, 16) := by kernel_rfl

end Go.Proofs.YtinkfgkjdaaeaaaGreatDoor

namespace Go.Proofs.YtinkfgkjdaaeaaaGreatDoor
open Go.RowKit

set_option maxHeartbeats 800000 in
theorem l1NameOk_any (w : World) (s : ByteArray) (hs : s.size ≤ maxLen) :
    Calls Tryz.prog 24 #[.string s] w fun e w' => Says e (NameOk s) ∧ w' = w := by
  unfold maxLen at hs
  by_cases h1 : (1 : Int) ≤ s.size
  · by_cases h2 : (s.size : Int) ≤ 20
    · cases h3 : (s.toList == [45])
      · go_enter Tryz.func24, Tryz.ntmps24
        go_wp2
        go_loop [3] (fun i => ∃ k : Nat, k ≤ s.size ∧ i = .int .i64 k ∧ ∀ j (h : j < s.size), j < k → GoodByte s[j]) (fun i => s.size - (intOf i).toNat)
        case atStart => exact ⟨0, Nat.zero_le _, rfl, fun j _ hj => absurd hj (Nat.not_lt_zero _)⟩
        case round =>
          obtain ⟨k, hk, rfl, hg⟩ := hrel
          have HG := hide hg
          clear hg
          by_cases hlt : k < s.size
          · by_cases b1 : (s[k].toNat : Int) < 33
            · go_wp2
              go_ret
              exact ⟨Says.no fun h => by have := h.2.2.2 k hlt; unfold GoodByte at this; omega, rfl⟩
            · by_cases b2 : 126 < (s[k].toNat : Int)
              · go_wp2
                go_ret
                exact ⟨Says.no fun h => by have := h.2.2.2 k hlt; unfold GoodByte at this; omega, rfl⟩
              · cases b3 : ((s[k].toNat : Int) == 44)
                · go_wp2
                  go_round
                  case rel =>
                    refine ⟨k + 1, by omega, by go_num, fun j hj hjk => ?_⟩
                    by_cases e : j = k
                    · subst e
                      exact ⟨by omega, by omega, by simpa using b3⟩
                    · exact unhide HG j hj (by omega)
                  case measure => simp [intOf]; omega
                · go_wp2
                  go_ret
                  exact ⟨Says.no fun h => by have := h.2.2.2 k hlt; unfold GoodByte at this; simp at b3; omega, rfl⟩
          · go_wp2
            go_ret
            exact ⟨Says.yes ⟨by omega, by omega, h3, fun j hj => unhide HG j hj (by omega)⟩, rfl⟩
      · go_enter Tryz.func24, Tryz.ntmps24
        go_wp2
        go_ret
        exact ⟨Says.no fun h => by have := h.2.2.1; simp [h3] at this, rfl⟩
    · go_enter Tryz.func24, Tryz.ntmps24
      go_wp2
      go_ret
      exact ⟨Says.no fun h => by have := h.2.1; omega, rfl⟩
  · go_enter Tryz.func24, Tryz.ntmps24
    go_wp2
    go_ret
    exact ⟨Says.no fun h => by have := h.1; omega, rfl⟩

set_option maxRecDepth 100000 in
set_option maxHeartbeats 800000 in
theorem validName_any (w : World) (s : ByteArray) (hs : s.size ≤ maxLen) :
    Calls Tryz.prog 55 #[.string s] w fun e w' => Says e (NameOk s) ∧ Kept w w' := by
  unfold maxLen at hs
  by_cases h1 : (1 : Int) ≤ s.size
  · by_cases h2 : (s.size : Int) ≤ 20
    · cases h3 : (s.toList == [45])
      · obtain ⟨cap, C, fr, hconv, hcell⟩ := convBytes w s
        go_enter Tryz.func55, Tryz.ntmps55
        go_wp2
        clear hconv
        go_loopw [20] (fun i wr => ∃ k : Nat, k ≤ s.size ∧ i = .int .i64 k ∧ (∀ j (h : j < s.size), j < k → GoodByte s[j]) ∧ wr = (w.alloc (.cells C 5 fr)).drew) (fun i _ => s.size - (intOf i).toNat)
        case atStart => exact ⟨0, Nat.zero_le _, rfl, fun j _ hj => absurd hj (Nat.not_lt_zero _), rfl⟩
        case round =>
          obtain ⟨k, hk, rfl, hg, rfl⟩ := hrel
          have HG := hide hg
          clear hg
          by_cases hlt : k < s.size
          · have hc := hcell k hlt
            clear hcell
            by_cases b1 : (s[k].toNat : Int) < 33
            · go_wp2
              go_ret
              exact ⟨Says.no fun h => by have := h.2.2.2 k hlt; unfold GoodByte at this; omega, ((Kept.refl _).alloc _).drew⟩
            · by_cases b2 : 126 < (s[k].toNat : Int)
              · go_wp2
                go_ret
                exact ⟨Says.no fun h => by have := h.2.2.2 k hlt; unfold GoodByte at this; omega, ((Kept.refl _).alloc _).drew⟩
              · cases b3 : ((s[k].toNat : Int) == 44)
                · go_wp2
                  go_roundw
                  case rel =>
                    refine ⟨k + 1, by omega, by go_num, fun j hj hjk => ?_, by first | rfl | trivial⟩
                    by_cases e : j = k
                    · subst e
                      exact ⟨by omega, by omega, by simpa using b3⟩
                    · exact unhide HG j hj (by omega)
                  case measure => simp [intOf]; omega
                · go_wp2
                  go_ret
                  exact ⟨Says.no fun h => by have := h.2.2.2 k hlt; unfold GoodByte at this; simp at b3; omega, ((Kept.refl _).alloc _).drew⟩
          · go_wp2
            go_ret
            exact ⟨Says.yes ⟨by omega, by omega, h3, fun j hj => unhide HG j hj (by omega)⟩, ((Kept.refl _).alloc _).drew⟩
      · go_enter Tryz.func55, Tryz.ntmps55
        go_wp2
        go_ret
        exact ⟨Says.no fun h => by have := h.2.2.1; simp [h3] at this, Kept.refl _⟩
    · go_enter Tryz.func55, Tryz.ntmps55
      go_wp2
      go_ret
      exact ⟨Says.no fun h => by have := h.2.1; omega, Kept.refl _⟩
  · go_enter Tryz.func55, Tryz.ntmps55
    go_wp2
    go_ret
    exact ⟨Says.no fun h => by have := h.1; omega, Kept.refl _⟩

end Go.Proofs.YtinkfgkjdaaeaaaGreatDoor

namespace Go.Proofs.YtinkfgkjdaaeaaaGreatDoor
open Go.RowKit

def Has (l : List ByteArray) (v : ByteArray) : Prop := ∃ i, i < l.length ∧ l.getD i ByteArray.empty = v

set_option maxHeartbeats 800000 in
theorem index_any (w : World) (a : Option Addr) (cap : Nat) (l : List ByteArray) (v : ByteArray) (hl : l.length ≤ maxLen) (hS : Strs w a l) :
    Calls Tryz.prog 198 #[.slice a l.length cap, .string v] w fun e w' => (∃ r, e = .returned (.int .i64 r) ∧ (0 ≤ r ↔ Has l v)) ∧ w' = w := by
  unfold maxLen at hl
  go_enter Tryz.func198, Tryz.ntmps198
  go_wp2
  go_loop [8] (fun i => ∃ k : Nat, k ≤ l.length ∧ i = .int .i64 k ∧ ∀ j, j < k → l.getD j ByteArray.empty ≠ v) (fun i => l.length - (intOf i).toNat)
  case atStart => exact ⟨0, Nat.zero_le _, rfl, fun j hj => absurd hj (Nat.not_lt_zero _)⟩
  case round =>
    obtain ⟨k, hk, rfl, hg⟩ := hrel
    have HG := hide hg
    clear hg
    by_cases hlt : k < l.length
    · obtain ⟨b, o, rfl, hb, hc⟩ := hS k hlt
      obtain ⟨s, hsk⟩ : ∃ s, s = l.getD k ByteArray.empty := ⟨_, rfl⟩
      rw [← hsk] at hc
      have HSK := hide hsk
      clear hsk
      cases hvs : (v.toList == s.toList)
      · go_wp2
        go_round
        case rel =>
          refine ⟨k + 1, by omega, by go_num, fun j hj => ?_⟩
          by_cases e : j = k
          · subst e
            rw [← HSK.out]
            exact (bytes_ne hvs).symm
          · exact unhide HG j (by omega)
        case measure => simp [intOf]; omega
      · go_wp2
        go_ret
        exact ⟨⟨_, rfl, ⟨fun _ => ⟨k, hlt, by rw [← HSK.out]; exact (bytes_eq.1 hvs).symm⟩, fun _ => by omega⟩⟩, rfl⟩
    · go_wp2
      go_ret
      exact ⟨⟨_, rfl, ⟨fun h => by omega, fun ⟨i, hi, e⟩ => absurd e (unhide HG i (by omega))⟩⟩, rfl⟩

theorem contains_any (w : World) (a : Option Addr) (cap : Nat) (l : List ByteArray) (v : ByteArray) (hl : l.length ≤ maxLen) (hS : Strs w a l) :
    Calls Tryz.prog 195 #[.slice a l.length cap, .string v] w fun e w' => Says e (Has l v) ∧ w' = w := by
  go_enter Tryz.func195, Tryz.ntmps195
  go_wp2_with fail
  refine (index_any _ a cap l v hl hS).mono ?_
  rintro e w1 ⟨⟨r, rfl, hr⟩, rfl⟩
  have HR := hide hr
  clear hr
  by_cases h0 : 0 ≤ r
  · have h1 : decide (0 ≤ r) = true := by simpa using h0
    go_wp2
    go_ret
    exact ⟨Says.congr (p := True) (Says.yes trivial) ⟨fun _ => HR.out.1 h0, fun _ => trivial⟩, rfl⟩
  · have h1 : decide (0 ≤ r) = false := by simpa using h0
    go_wp2
    go_ret
    exact ⟨Says.congr (p := False) (Says.no id) ⟨False.elim, fun h => by have := HR.out.2 h; omega⟩, rfl⟩

set_option maxHeartbeats 800000 in
theorem soundEnd_any (w : World) (asks : Nat) (on : Int) (cases : Nat) (els fall : Int) (fin bad : Bool) (give : ByteArray) (aa ac : Option Addr) (ca cc : Nat) (h1 : asks ≤ maxLen) (h2 : cases ≤ maxLen) (h3 : give.size ≤ maxLen) :
    Calls Tryz.prog 200 #[.agg #[.slice aa asks ca, .int .i64 on, .slice ac cases cc, .int .i64 els, .int .i64 fall, .bool fin, .bool bad, .string give]] w
      fun e w' => Says e (asks = 0 ∧ on = 0 ∧ cases = 0 ∧ els = 0 ∧ fall = 0 ∧ give.size ≤ 30) ∧ Kept w w' := by
  unfold maxLen at h1 h2 h3
  cases a1 : ((asks : Int) == 0)
  · go_enter Tryz.func200, Tryz.ntmps200
    go_wp2
    all_goals
      go_ret
      exact ⟨Says.no fun h => by simp at a1; omega, (Kept.refl _).alloc _⟩
  · obtain rfl : asks = 0 := by simp at a1; omega
    clear a1
    cases a2 : (on == 0)
    · go_enter Tryz.func200, Tryz.ntmps200
      go_wp2
      all_goals
        go_ret
        exact ⟨Says.no fun h => by simp at a2; omega, (Kept.refl _).alloc _⟩
    · obtain rfl : on = 0 := by simpa using a2
      clear a2
      cases a3 : ((cases : Int) == 0)
      · go_enter Tryz.func200, Tryz.ntmps200
        go_wp2
        go_ret
        exact ⟨Says.no fun h => by simp at a3; omega, (Kept.refl _).alloc _⟩
      · obtain rfl : cases = 0 := by simp at a3; omega
        clear a3
        cases a4 : (els == 0)
        · go_enter Tryz.func200, Tryz.ntmps200
          go_wp2
          go_ret
          exact ⟨Says.no fun h => by simp at a4; omega, (Kept.refl _).alloc _⟩
        · obtain rfl : els = 0 := by simpa using a4
          clear a4
          cases a5 : (fall == 0)
          · go_enter Tryz.func200, Tryz.ntmps200
            go_wp2
            go_ret
            exact ⟨Says.no fun h => by simp at a5; omega, (Kept.refl _).alloc _⟩
          · obtain rfl : fall = 0 := by simpa using a5
            clear a5
            by_cases a6 : (give.size : Int) ≤ 30
            · go_enter Tryz.func200, Tryz.ntmps200
              go_wp2
              go_ret
              exact ⟨Says.yes (by simp; omega), (Kept.refl _).alloc _⟩
            · go_enter Tryz.func200, Tryz.ntmps200
              go_wp2
              go_ret
              exact ⟨Says.no fun h => by omega, (Kept.refl _).alloc _⟩

end Go.Proofs.YtinkfgkjdaaeaaaGreatDoor

namespace Go.Proofs.YtinkfgkjdaaeaaaGreatDoor
open Go.RowKit

theorem Strs.take {w : World} {a : Option Addr} {l : List ByteArray} (h : Strs w a l) (k : Nat) : Strs w a (l.take k) := by
  intro i hi
  have hi' : i < l.length := by simp at hi; omega
  have hk : i < k := by simp at hi; omega
  obtain ⟨b, o, ha, hb, hc⟩ := h i hi'
  refine ⟨b, o, ha, hb, ?_⟩
  rw [hc]
  simp [List.getD, hk]

theorem has_take {l : List ByteArray} {k : Nat} (hk : k ≤ l.length) {v : ByteArray} : Has (l.take k) v ↔ ∃ i, i < k ∧ l.getD i ByteArray.empty = v := by
  unfold Has
  constructor
  · rintro ⟨i, hi, e⟩
    have hk' : i < k := by simp at hi; omega
    exact ⟨i, hk', by rw [← e]; simp [List.getD, hk']⟩
  · rintro ⟨i, hi, e⟩
    exact ⟨i, by simp; omega, by rw [← e]; simp [List.getD, hi]⟩

theorem contains_take (w : World) (a : Option Addr) (cap k : Nat) (l : List ByteArray) (v : ByteArray) (hl : l.length ≤ maxLen) (hk : k ≤ l.length) (hS : Strs w a l) :
    Calls Tryz.prog 195 #[.slice a k cap, .string v] w fun e w' => Says e (∃ i, i < k ∧ l.getD i ByteArray.empty = v) ∧ w' = w := by
  have e : (l.take k).length = k := by simp; omega
  have := contains_any w a cap (l.take k) v (by rw [e]; omega) (hS.take k)
  rw [e] at this
  exact this.mono fun e w' ⟨h, hw⟩ => ⟨h.congr (has_take hk), hw⟩

def AsksOk (s : StepD) : Prop := s.asks.length ≤ 5 ∧ NamesOk s.asks ∧ (s.on = 0 ∨ (0 ≤ s.on ∧ s.on < s.asks.length))

def NameOkAt (l : List ByteArray) (j : Nat) : Prop := NameOk (l.getD j ByteArray.empty) ∧ ∀ m, m < j → l.getD m ByteArray.empty ≠ l.getD j ByteArray.empty

set_option maxRecDepth 100000 in
set_option maxHeartbeats 1600000 in
theorem soundAsks_any (w : World) (s : StepD) (aa ac : Option Addr) (ca cc : Nat) (hs : s.Fits) (hA : Strs w aa s.asks) (hca : s.asks.length ≤ ca) :
    Calls Tryz.prog 193 #[.agg #[.slice aa s.asks.length ca, .int .i64 s.on, .slice ac s.cases.length cc, .int .i64 s.els, .int .i64 s.fall, .bool s.fin, .bool s.bad, .string s.give]] w fun e w' => Says e (AsksOk s) ∧ Kept w w' := by
  have h1 := hs.asks
  unfold maxLen at h1
  have k0 : Kept w (w.alloc (.cells #[.slice aa s.asks.length ca, .int .i64 s.on, .slice ac s.cases.length cc, .int .i64 s.els, .int .i64 s.fall, .bool s.fin, .bool s.bad, .string s.give] 164)) := (Kept.refl _).alloc _
  by_cases a1 : (s.asks.length : Int) ≤ 5
  · go_enter Tryz.func193, Tryz.ntmps193
    go_wp2
    go_loopw [14] (fun i wr => ∃ k : Nat, k ≤ s.asks.length ∧ i = .int .i64 k ∧ Kept (w.alloc (.cells #[.slice aa s.asks.length ca, .int .i64 s.on, .slice ac s.cases.length cc, .int .i64 s.els, .int .i64 s.fall, .bool s.fin, .bool s.bad, .string s.give] 164)) wr ∧ ∀ j, j < k → NameOkAt s.asks j) (fun i _ => s.asks.length - (intOf i).toNat)
    case atStart => exact ⟨0, Nat.zero_le _, rfl, Kept.refl _, fun j hj => absurd hj (Nat.not_lt_zero _)⟩
    case round =>
      obtain ⟨k, hk, rfl, hw, hg⟩ := hrel
      have HG := hide hg
      clear hg
      have hz1 := hw.size
      simp only [World.size_alloc] at hz1
      by_cases hlt : k < s.asks.length
      · obtain ⟨b, o, rfl, hb, hc⟩ := (hA.kept k0).kept hw k hlt
        have hsz : (s.asks.getD k ByteArray.empty).size ≤ maxLen := hs.askEach _ (by simp [List.getD, hlt])
        obtain ⟨v, hvk⟩ : ∃ v, v = s.asks.getD k ByteArray.empty := ⟨_, rfl⟩
        rw [← hvk] at hc hsz
        have HVK := hide hvk
        clear hvk
        go_wp2_with fail
        refine (validName_any _ v hsz).mono ?_
        rintro e w1 ⟨hsay, hw1⟩
        have hw2 := hw.trans hw1
        have hA1 := (hA.kept k0).kept hw2
        clear hc hb
        rcases hsay.cases with ⟨rfl, hyes⟩ | ⟨rfl, hno⟩
        · have HY := hide hyes
          clear hyes hsay hw hw1
          obtain ⟨hc1, hf1⟩ := hw2.rules
          have hkc : k ≤ ca := by omega
          go_wp2_with fail
          refine (contains_take _ _ ca k s.asks v hs.asks (by omega) hA1).mono ?_
          rintro e w2 ⟨hsay, rfl⟩
          rcases hsay.cases with ⟨rfl, hyes⟩ | ⟨rfl, hno⟩
          · have HN := hide hyes
            clear hyes hsay hA1 hc1 hf1
            go_wp2
            go_ret
            exact ⟨Says.no fun h => by obtain ⟨i, hi, e⟩ := HN.out; exact (h.2.1 k hlt).2 i hi (by rw [e, HVK.out]), k0.trans hw2⟩
          · have HN := hide hno
            clear hno hsay hA1 hc1 hf1
            go_wp2
            go_roundw
            case rel =>
              refine ⟨k + 1, by omega, by go_num, hw2, fun j hj => ?_⟩
              by_cases e : j = k
              · subst e
                exact ⟨by rw [← HVK.out]; exact HY.out, fun m hm h => HN.out ⟨m, hm, by rw [h, HVK.out]⟩⟩
              · exact unhide HG j (by omega)
            case measure => simp [intOf]; omega
        · have HN := hide hno
          clear hno hsay hw hw1
          go_wp2
          go_ret
          exact ⟨Says.no fun h => HN.out (by rw [HVK.out]; exact (h.2.1 k hlt).1), k0.trans hw2⟩
      · obtain ⟨hc1, hf1⟩ := hw.rules
        have hnames : Hid (NamesOk s.asks) := fun j hj => unhide HG j (by omega)
        clear HG
        go_wp2
        · go_ret
          exact ⟨(Says.dec _).congr ⟨fun h => ⟨by omega, hnames.out, by omega⟩, fun h => by have := h.2.2; omega⟩, k0.trans hw⟩
        · go_ret
          exact ⟨(Says.dec _).congr ⟨fun h => ⟨by omega, hnames.out, by omega⟩, fun h => by have := h.2.2; omega⟩, k0.trans hw⟩
        all_goals
          go_ret
          exact ⟨Says.no fun h => by have := h.2.2; omega, k0.trans hw⟩
  · go_enter Tryz.func193, Tryz.ntmps193
    go_wp2
    go_ret
    exact ⟨Says.no fun h => by have := h.1; omega, k0⟩

end Go.Proofs.YtinkfgkjdaaeaaaGreatDoor
