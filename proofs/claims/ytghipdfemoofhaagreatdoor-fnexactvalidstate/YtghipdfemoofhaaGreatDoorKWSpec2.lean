import Derived.Test.YtghipdfemoofhaaGreatDoorProg
import Derived.Test.YtghipdfemoofhaaGreatDoorKValid
import Derived.WalkKit
import Derived.WalkSpells
import Derived.WalkLawsBesides
import Derived.Deep.OwnRows
import Derived.Test.YtghipdfemoofhaaGreatDoorKWConv
import Derived.Laws.IdiomStrings

namespace Go.Proofs.YtghipdfemoofhaaGreatDoor
open Go.RowKit

def szStrs (l : List ByteArray) : Nat := l.length + (l.map (·.size)).sum

set_option maxHeartbeats 400000 in
theorem szStringS_any (w : World) (a : Option Addr) (cap : Nat) (l : List ByteArray) (left : Int) (hl : l.length ≤ maxLen) (hs : ∀ s ∈ l, s.size ≤ maxLen)
    (hS : Strs w a l) (h0 : 0 ≤ left) (h1 : left ≤ 1048576) :
    Calls Tryz.prog 27 #[.slice a l.length cap, .int .i64 left] w fun e w' => e = .returned (.int .i64 (szL (szStrs l) left)) ∧ w' = w := by
  unfold maxLen at hl
  go_enter Tryz.func27, Tryz.ntmps27
  go_wp2
  · go_ret
    exact ⟨ret_int (szL_neg (by unfold szStrs; omega)).symm, rfl⟩
  · go_loop [1, 5] (fun x i => ∃ k : Nat, k ≤ l.length ∧ i = .int .i64 k ∧ x = .int .i64 (left - l.length - sumTo (·.size) l k) ∧ 0 ≤ left - l.length - sumTo (·.size) l k) (fun _ i => l.length - (intOf i).toNat)
    case atStart => exact ⟨0, Nat.zero_le _, rfl, by simp [sumTo_zero], by simp [sumTo_zero]; omega⟩
    case round =>
      obtain ⟨k, hk, rfl, rfl, hge⟩ := hrel
      by_cases hlt : k < l.length
      · obtain ⟨b, o, rfl, hb, hc⟩ := hS k hlt
        have hsz : (l.getD k ByteArray.empty).size ≤ maxLen := hs _ (by simp [List.getD, hlt])
        have HS : Hid (sumTo (·.size) l (k + 1) = sumTo (·.size) l k + (l.getD k ByteArray.empty).size) := sumTo_succ _ l _ k hlt
        have HT := sumTo_le (·.size) l (k + 1)
        generalize l.getD k ByteArray.empty = s at *
        unfold maxLen at hsz
        go_wp2
        · go_ret
          exact ⟨ret_int (szL_neg (by unfold szStrs; have := HS.out; omega)).symm, rfl⟩
        · go_round
          case rel => exact ⟨k + 1, by omega, by go_num, by rw [HS.out]; go_num, by rw [HS.out]; omega⟩
          case measure => simp [intOf]; omega
      · go_wp2
        go_ret
        have : k = l.length := by omega
        subst this
        rw [sumTo_all] at hge ⊢
        exact ⟨ret_int (by rw [szL_pos (by unfold szStrs; omega)]; unfold szStrs; omega), rfl⟩

theorem eqStringS_yes (w : World) (a a' : Option Addr) (cap cap' : Nat) (l : List ByteArray) (hl : l.length ≤ maxLen)
    (hS : Strs w a l) (hS' : Strs w a' l) :
    Calls Tryz.prog 15 #[.slice a l.length cap, .slice a' l.length cap'] w fun e w' => e = .returned (.bool true) ∧ Kept w w' := by
  unfold maxLen at hl
  go_enter Tryz.func15, Tryz.ntmps15
  go_wp2
  go_loopw [5] (fun i wr => ∃ k : Nat, k ≤ l.length ∧ i = .int .i64 k ∧ Kept w wr) (fun i _ => l.length - (intOf i).toNat)
  case atStart => exact ⟨0, Nat.zero_le _, rfl, Kept.refl _⟩
  case round =>
    obtain ⟨k, hk, rfl, hw⟩ := hrel
    by_cases hlt : k < l.length
    · obtain ⟨b, o, rfl, hb, hc⟩ := hS.kept hw k hlt
      obtain ⟨b', o', rfl, hb', hc'⟩ := hS'.kept hw k hlt
      generalize l.getD k ByteArray.empty = s at *
      go_wp2
      go_region
      all_goals
        go_wp2
        go_roundw
        case rel => exact ⟨k + 1, by omega, by go_num, Below.drew hw⟩
        case measure => simp [intOf]; omega
    · go_wp2
      go_ret
      exact ⟨rfl, hw⟩

theorem Tryz.infoStr : (Tryz.prog.info? 9).map (fun i => (i.zero, i.size, i.bytes)) = some (some (.string ByteArray.empty), 1, 16) := by kernel_rfl

theorem toStringS_any (w : World) (a : Option Addr) (cap : Nat) (l : List ByteArray) (hl : l.length ≤ 1048576)
    (hS : Strs w a l) :
    Calls Tryz.prog 29 #[.slice a l.length cap] w fun e w' => ∃ b, e = .returned (.slice (some ⟨b, 0, none⟩) l.length l.length) ∧ Strs w' (some ⟨b, 0, none⟩) l ∧ Kept w w' ∧ w.heap.size ≤ b := by
  have hmk := run_make_row' (P := Tryz.prog) 25 9 _ _ Tryz.underlying25 Tryz.infoStr rfl .i64 .i64 l.length (by omega) (by omega)
  go_enter Tryz.func29, Tryz.ntmps29
  go_wp2
  clear hmk
  have hrow := World.rowIs_made w (.string ByteArray.empty) l.length 9
  have hkept : Kept w (w.alloc (.cells (madeCells #[.string ByteArray.empty] l.length) 9)) := Below.alloc (Below.refl _ _) (Nat.le_refl _) _
  go_loopw [4] (fun i wr => ∃ k : Nat, k ≤ l.length ∧ i = .int .i64 k ∧ Kept w wr ∧ (∃ f, wr.rowIs w.heap.size 9 l.length f) ∧ ∀ j, j < k → wr.cell? ⟨w.heap.size, j, none⟩ = some (.string (l.getD j ByteArray.empty))) (fun i _ => l.length - (intOf i).toNat)
  case atStart => exact ⟨0, Nat.zero_le _, rfl, hkept, ⟨_, hrow⟩, fun j hj => absurd hj (Nat.not_lt_zero _)⟩
  case round =>
    obtain ⟨k, hk, rfl, hw, ⟨f, hr⟩, hf⟩ := hrel
    clear hrow hkept
    by_cases hlt : k < l.length
    · obtain ⟨b, o, rfl, hb, hc⟩ := hS.kept hw k hlt
      have hfr := hr.frozen k
      have hold := hr.cell hlt
      have HR := hide hr
      have HF := hide hf
      clear hr hf
      generalize hs : l.getD k ByteArray.empty = s at *
      have HSs := hide hs
      clear hs
      go_wp2
      go_roundw
      case rel =>
        refine ⟨k + 1, by omega, by go_num, Below.setCell hw (Nat.le_refl _) _, ⟨_, (unhide HR).set k (.string s)⟩, fun j hj => ?_⟩
        by_cases e : j = k
        · subst e
          rw [World.cell?_setCell_same _ _ _ hold, unhide HSs]
        · rw [World.cell?_setCell_other _ _ _ _ (by simp <;> omega)]
          exact unhide HF j (by omega)
      case measure => simp [intOf]; omega
    · go_wp2
      go_ret
      have : k = l.length := by omega
      subst this
      exact ⟨w.heap.size, rfl, fun j hj => ⟨w.heap.size, 0, rfl, hr.lt, by rw [Nat.zero_add]; exact hf j hj⟩, hw, Nat.le_refl _⟩

end Go.Proofs.YtghipdfemoofhaaGreatDoor

namespace Go.Proofs.YtghipdfemoofhaaGreatDoor
open Go.RowKit

set_option maxHeartbeats 800000 in
theorem l1NameOk_any (w : World) (s : ByteArray) (hs : s.size ≤ maxLen) :
    Calls Tryz.prog 98 #[.string s] w fun e w' => Says e (NameOk s) ∧ w' = w := by
  unfold maxLen at hs
  by_cases h1 : (1 : Int) ≤ s.size
  · by_cases h2 : (s.size : Int) ≤ 20
    · cases h3 : (s.toList == [45])
      · go_enter Tryz.func98, Tryz.ntmps98
        go_wp2
        go_loop [3] (fun i => ∃ k : Nat, k ≤ s.size ∧ i = .int .i64 k ∧ ∀ j (h : j < s.size), j < k → GoodByte s[j]) (fun i => s.size - (intOf i).toNat)
        case atStart => exact ⟨0, Nat.zero_le _, rfl, fun j _ hj => absurd hj (Nat.not_lt_zero _)⟩
        case round =>
          obtain ⟨k, hk, rfl, hg⟩ := hrel
          have HG := hide hg
          clear hg
          by_cases hlt : k < s.size
          · by_cases b1 : (s[k].toNat : Int) < 33
            · go_wp2
              go_ret
              exact ⟨Says.no fun h => by have := h.2.2.2 k hlt; unfold GoodByte at this; omega, rfl⟩
            · by_cases b2 : 126 < (s[k].toNat : Int)
              · go_wp2
                go_ret
                exact ⟨Says.no fun h => by have := h.2.2.2 k hlt; unfold GoodByte at this; omega, rfl⟩
              · cases b3 : ((s[k].toNat : Int) == 44)
                · go_wp2
                  go_round
                  case rel =>
                    refine ⟨k + 1, by omega, by go_num, fun j hj hjk => ?_⟩
                    by_cases e : j = k
                    · subst e
                      exact ⟨by omega, by omega, by simpa using b3⟩
                    · exact unhide HG j hj (by omega)
                  case measure => simp [intOf]; omega
                · go_wp2
                  go_ret
                  exact ⟨Says.no fun h => by have := h.2.2.2 k hlt; unfold GoodByte at this; simp at b3; omega, rfl⟩
          · go_wp2
            go_ret
            exact ⟨Says.yes ⟨by omega, by omega, h3, fun j hj => unhide HG j hj (by omega)⟩, rfl⟩
      · go_enter Tryz.func98, Tryz.ntmps98
        go_wp2
        go_ret
        exact ⟨Says.no fun h => by have := h.2.2.1; simp [h3] at this, rfl⟩
    · go_enter Tryz.func98, Tryz.ntmps98
      go_wp2
      go_ret
      exact ⟨Says.no fun h => by have := h.2.1; omega, rfl⟩
  · go_enter Tryz.func98, Tryz.ntmps98
    go_wp2
    go_ret
    exact ⟨Says.no fun h => by have := h.1; omega, rfl⟩

set_option maxRecDepth 100000 in
set_option maxHeartbeats 800000 in
theorem validName_any (w : World) (s : ByteArray) (hs : s.size ≤ maxLen) :
    Calls Tryz.prog 145 #[.string s] w fun e w' => Says e (NameOk s) ∧ Kept w w' := by
  unfold maxLen at hs
  by_cases h1 : (1 : Int) ≤ s.size
  · by_cases h2 : (s.size : Int) ≤ 20
    · cases h3 : (s.toList == [45])
      · obtain ⟨cap, C, fr, hconv, hcell⟩ := convBytes w s
        go_enter Tryz.func145, Tryz.ntmps145
        go_wp2
        clear hconv
        go_loopw [20] (fun i wr => ∃ k : Nat, k ≤ s.size ∧ i = .int .i64 k ∧ (∀ j (h : j < s.size), j < k → GoodByte s[j]) ∧ wr = (w.alloc (.cells C 5 fr)).drew) (fun i _ => s.size - (intOf i).toNat)
        case atStart => exact ⟨0, Nat.zero_le _, rfl, fun j _ hj => absurd hj (Nat.not_lt_zero _), rfl⟩
        case round =>
          obtain ⟨k, hk, rfl, hg, rfl⟩ := hrel
          have HG := hide hg
          clear hg
          by_cases hlt : k < s.size
          · have hc := hcell k hlt
            clear hcell
            by_cases b1 : (s[k].toNat : Int) < 33
            · go_wp2
              go_ret
              exact ⟨Says.no fun h => by have := h.2.2.2 k hlt; unfold GoodByte at this; omega, ((Kept.refl _).alloc _).drew⟩
            · by_cases b2 : 126 < (s[k].toNat : Int)
              · go_wp2
                go_ret
                exact ⟨Says.no fun h => by have := h.2.2.2 k hlt; unfold GoodByte at this; omega, ((Kept.refl _).alloc _).drew⟩
              · cases b3 : ((s[k].toNat : Int) == 44)
                · go_wp2
                  go_roundw
                  case rel =>
                    refine ⟨k + 1, by omega, by go_num, fun j hj hjk => ?_, by first | rfl | trivial⟩
                    by_cases e : j = k
                    · subst e
                      exact ⟨by omega, by omega, by simpa using b3⟩
                    · exact unhide HG j hj (by omega)
                  case measure => simp [intOf]; omega
                · go_wp2
                  go_ret
                  exact ⟨Says.no fun h => by have := h.2.2.2 k hlt; unfold GoodByte at this; simp at b3; omega, ((Kept.refl _).alloc _).drew⟩
          · go_wp2
            go_ret
            exact ⟨Says.yes ⟨by omega, by omega, h3, fun j hj => unhide HG j hj (by omega)⟩, ((Kept.refl _).alloc _).drew⟩
      · go_enter Tryz.func145, Tryz.ntmps145
        go_wp2
        go_ret
        exact ⟨Says.no fun h => by have := h.2.2.1; simp [h3] at this, Kept.refl _⟩
    · go_enter Tryz.func145, Tryz.ntmps145
      go_wp2
      go_ret
      exact ⟨Says.no fun h => by have := h.2.1; omega, Kept.refl _⟩
  · go_enter Tryz.func145, Tryz.ntmps145
    go_wp2
    go_ret
    exact ⟨Says.no fun h => by have := h.1; omega, Kept.refl _⟩

end Go.Proofs.YtghipdfemoofhaaGreatDoor

namespace Go.Proofs.YtghipdfemoofhaaGreatDoor
open Go.RowKit

set_option maxHeartbeats 800000 in
theorem l1Names_any (w : World) (a : Option Addr) (cap : Nat) (l : List ByteArray) (hl : l.length ≤ maxLen) (hs : ∀ s ∈ l, s.size ≤ maxLen) (hS : Strs w a l) :
    Calls Tryz.prog 101 #[.slice a l.length cap] w fun e w' => Says e (NamesOk l) ∧ Kept w w' := by
  unfold maxLen at hl
  go_enter Tryz.func101, Tryz.ntmps101
  go_wp2
  go_loopw [3] (fun i wr => ∃ k : Nat, k ≤ l.length ∧ i = .int .i64 k ∧ Kept w wr ∧ ∀ j, j < k → NameOk (l.getD j ByteArray.empty) ∧ ∀ m, m < j → l.getD m ByteArray.empty ≠ l.getD j ByteArray.empty) (fun i _ => l.length - (intOf i).toNat)
  case atStart => exact ⟨0, Nat.zero_le _, rfl, Kept.refl _, fun j hj => absurd hj (Nat.not_lt_zero _)⟩
  case round =>
    obtain ⟨k, hk, rfl, hw, hg⟩ := hrel
    have HG := hide hg
    clear hg
    by_cases hlt : k < l.length
    · obtain ⟨b, o, rfl, hb, hc⟩ := hS.kept hw k hlt
      have hsz : (l.getD k ByteArray.empty).size ≤ maxLen := hs _ (by simp [List.getD, hlt])
      obtain ⟨s, hsk⟩ : ∃ s, s = l.getD k ByteArray.empty := ⟨_, rfl⟩
      rw [← hsk] at hc hsz
      have HSK := hide hsk
      clear hsk
      go_wp2_with fail
      refine (l1NameOk_any _ s hsz).mono ?_
      rintro e w1 ⟨hsay, rfl⟩
      rcases hsay.cases with ⟨rfl, hyes⟩ | ⟨rfl, hno⟩
      · have HY := hide hyes
        clear hyes hsay
        go_wp2
        clear hc
        go_loopw [4] (fun m wr => ∃ q : Nat, q ≤ k ∧ m = .int .i64 q ∧ Kept w wr ∧ ∀ t, t < q → l.getD t ByteArray.empty ≠ s) (fun m _ => k - (intOf m).toNat)
        case atStart => exact ⟨0, Nat.zero_le _, rfl, hw, fun j hj => absurd hj (Nat.not_lt_zero _)⟩
        case round =>
          obtain ⟨q, hq, rfl, hw2, hd⟩ := hrel
          have HD := hide hd
          clear hd hw
          by_cases hqlt : q < k
          · obtain ⟨b', o', e1, hb', hc'⟩ := hS.kept hw2 k hlt
            simp only [Option.some.injEq, Addr.mk.injEq, and_true] at e1
            obtain ⟨rfl, rfl⟩ := e1
            obtain ⟨b', o', e1, hb'', hd'⟩ := hS.kept hw2 q (by omega)
            simp only [Option.some.injEq, Addr.mk.injEq, and_true] at e1
            obtain ⟨rfl, rfl⟩ := e1
            rw [← HSK.out] at hc'
            obtain ⟨t, htk⟩ : ∃ t, t = l.getD q ByteArray.empty := ⟨_, rfl⟩
            rw [← htk] at hd'
            have HTK := hide htk
            clear htk
            cases hts : (t.toList == s.toList)
            · go_wp2
              go_region
              all_goals
                go_wp2
                go_roundw
                case rel =>
                  refine ⟨q + 1, by omega, by go_num, by repeat (first | apply Kept.drew | exact hw2), fun j hj => ?_⟩
                  by_cases e : j = q
                  · subst e
                    rw [← HTK.out]
                    exact bytes_ne hts
                  · exact unhide HD j (by omega)
                case measure => simp [intOf]; omega
            · go_wp2
              go_region
              all_goals
                go_wp2
                go_ret
                exact ⟨Says.no fun h => (h k hlt).2 q hqlt (by rw [← HTK.out, ← HSK.out]; exact bytes_eq.1 hts), by repeat (first | apply Kept.drew | exact hw2)⟩
          · go_wp2
            go_roundw
            case rel =>
              refine ⟨k + 1, by omega, by go_num, hw2, fun j hj => ?_⟩
              by_cases e : j = k
              · subst e
                rw [← HSK.out]
                exact ⟨HY.out, fun m hm => unhide HD m (by omega)⟩
              · exact unhide HG j (by omega)
            case measure => simp [intOf]; omega
      · go_wp2
        go_ret
        exact ⟨Says.no fun h => hno (by rw [HSK.out]; exact (h k hlt).1), hw⟩
    · go_wp2
      go_ret
      exact ⟨Says.yes fun j hj => unhide HG j (by omega), hw⟩

end Go.Proofs.YtghipdfemoofhaaGreatDoor

namespace Go.Proofs.YtghipdfemoofhaaGreatDoor
open Go.RowKit

set_option maxHeartbeats 800000 in
theorem l1StepOk_end (w : World) (asks : Nat) (on : Int) (cases : Nat) (els fall : Int) (bad : Bool) (give : ByteArray) (aa ac : Option Addr) (ca cc : Nat) (n : Int) (h1 : asks ≤ maxLen) (h2 : cases ≤ maxLen) (h3 : give.size ≤ maxLen) :
    Calls Tryz.prog 140 #[.agg #[.slice aa asks ca, .int .i64 on, .slice ac cases cc, .int .i64 els, .int .i64 fall, .bool true, .bool bad, .string give], .int .i64 n] w
      fun e w' => Says e (asks = 0 ∧ on = 0 ∧ cases = 0 ∧ els = 0 ∧ fall = 0 ∧ give.size ≤ 30) ∧ Kept w w' := by
  unfold maxLen at h1 h2 h3
  have k0 : Kept w (w.alloc (.cells #[.slice aa asks ca, .int .i64 on, .slice ac cases cc, .int .i64 els, .int .i64 fall, .bool true, .bool bad, .string give] 99)) := (Kept.refl _).alloc _
  cases a1 : ((asks : Int) == 0)
  · go_enter Tryz.func140, Tryz.ntmps140
    go_wp2
    go_ret
    exact ⟨Says.no fun h => by simp at a1; omega, k0⟩
  · obtain rfl : asks = 0 := by simp at a1; omega
    clear a1
    cases a2 : (on == 0)
    · go_enter Tryz.func140, Tryz.ntmps140
      go_wp2
      go_ret
      exact ⟨Says.no fun h => by simp at a2; omega, k0⟩
    · obtain rfl : on = 0 := by simpa using a2
      clear a2
      cases a3 : ((cases : Int) == 0)
      · go_enter Tryz.func140, Tryz.ntmps140
        go_wp2
        go_ret
        exact ⟨Says.no fun h => by simp at a3; omega, k0⟩
      · obtain rfl : cases = 0 := by simp at a3; omega
        clear a3
        cases a4 : (els == 0)
        · go_enter Tryz.func140, Tryz.ntmps140
          go_wp2
          go_ret
          exact ⟨Says.no fun h => by simp at a4; omega, k0⟩
        · obtain rfl : els = 0 := by simpa using a4
          clear a4
          cases a5 : (fall == 0)
          · go_enter Tryz.func140, Tryz.ntmps140
            go_wp2
            go_ret
            exact ⟨Says.no fun h => by simp at a5; omega, k0⟩
          · obtain rfl : fall = 0 := by simpa using a5
            clear a5
            by_cases a6 : (give.size : Int) ≤ 30
            · go_enter Tryz.func140, Tryz.ntmps140
              go_wp2
              go_ret
              exact ⟨Says.yes (by simp; omega), k0⟩
            · go_enter Tryz.func140, Tryz.ntmps140
              go_wp2
              go_ret
              exact ⟨Says.no fun h => by omega, k0⟩

end Go.Proofs.YtghipdfemoofhaaGreatDoor
