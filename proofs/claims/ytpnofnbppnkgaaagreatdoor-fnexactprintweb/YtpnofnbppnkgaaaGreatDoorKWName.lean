import Derived.Test.YtpnofnbppnkgaaaGreatDoorProg
import Derived.Test.YtpnofnbppnkgaaaGreatDoorKValid
import Derived.WalkKit
import Derived.WalkSpells
import Derived.WalkLawsBesides
import Derived.Deep.OwnRows
import Derived.Laws.IdiomStrings

namespace Go.Proofs.YtpnofnbppnkgaaaGreatDoor
open Go.RowKit

def szStrs (l : List ByteArray) : Nat := l.length + (l.map (·.size)).sum

set_option maxHeartbeats 400000 in
theorem szStringS_any (w : World) (a : Option Addr) (cap : Nat) (l : List ByteArray) (left : Int) (hl : l.length ≤ maxLen) (hs : ∀ s ∈ l, s.size ≤ maxLen)
    (hS : Strs w a l) (h0 : 0 ≤ left) (h1 : left ≤ 1048576) :
    Calls Tryz.prog 70 #[.slice a l.length cap, .int .i64 left] w fun e w' => e = .returned (.int .i64 (szL (szStrs l) left)) ∧ w' = w := by
  unfold maxLen at hl
  go_enter Tryz.func70, Tryz.ntmps70
  go_wp2
  · go_ret
    exact ⟨ret_int (szL_neg (by unfold szStrs; omega)).symm, rfl⟩
  · go_loop [1, 5] (fun x i => ∃ k : Nat, k ≤ l.length ∧ i = .int .i64 k ∧ x = .int .i64 (left - l.length - sumTo (·.size) l k) ∧ 0 ≤ left - l.length - sumTo (·.size) l k) (fun _ i => l.length - (intOf i).toNat)
    case atStart => exact ⟨0, Nat.zero_le _, rfl, by simp [sumTo_zero], by simp [sumTo_zero]; omega⟩
    case round =>
      obtain ⟨k, hk, rfl, rfl, hge⟩ := hrel
      by_cases hlt : k < l.length
      · obtain ⟨b, o, rfl, hb, hc⟩ := hS k hlt
        have hsz : (l.getD k ByteArray.empty).size ≤ maxLen := hs _ (by simp [List.getD, hlt])
        have HS : Hid (sumTo (·.size) l (k + 1) = sumTo (·.size) l k + (l.getD k ByteArray.empty).size) := sumTo_succ _ l _ k hlt
        have HT := sumTo_le (·.size) l (k + 1)
        generalize l.getD k ByteArray.empty = s at *
        unfold maxLen at hsz
        go_wp2
        · go_ret
          exact ⟨ret_int (szL_neg (by unfold szStrs; have := HS.out; omega)).symm, rfl⟩
        · go_round
          case rel => exact ⟨k + 1, by omega, by go_num, by rw [HS.out]; go_num, by rw [HS.out]; omega⟩
          case measure => simp [intOf]; omega
      · go_wp2
        go_ret
        have : k = l.length := by omega
        subst this
        rw [sumTo_all] at hge ⊢
        exact ⟨ret_int (by rw [szL_pos (by unfold szStrs; omega)]; unfold szStrs; omega), rfl⟩

theorem eqStringS_yes (w : World) (a a' : Option Addr) (cap cap' : Nat) (l : List ByteArray) (hl : l.length ≤ maxLen)
    (hS : Strs w a l) (hS' : Strs w a' l) :
    Calls Tryz.prog 83 #[.slice a l.length cap, .slice a' l.length cap'] w fun e w' => e = .returned (.bool true) ∧ Kept w w' := by
  unfold maxLen at hl
  go_enter Tryz.func83, Tryz.ntmps83
  go_wp2
  go_loopw [5] (fun i wr => ∃ k : Nat, k ≤ l.length ∧ i = .int .i64 k ∧ Kept w wr) (fun i _ => l.length - (intOf i).toNat)
  case atStart => exact ⟨0, Nat.zero_le _, rfl, Kept.refl _⟩
  case round =>
    obtain ⟨k, hk, rfl, hw⟩ := hrel
    by_cases hlt : k < l.length
    · obtain ⟨b, o, rfl, hb, hc⟩ := hS.kept hw k hlt
      obtain ⟨b', o', rfl, hb', hc'⟩ := hS'.kept hw k hlt
      generalize l.getD k ByteArray.empty = s at *
      go_wp2
      go_region
      all_goals
        go_wp2
        go_roundw
        case rel => exact ⟨k + 1, by omega, by go_num, Below.drew hw⟩
        case measure => simp [intOf]; omega
    · go_wp2
      go_ret
      exact ⟨rfl, hw⟩

theorem Tryz.infoStr : (Tryz.prog.info? 9).map (fun i => (i.zero, i.size, i.bytes)) = some (some (.string ByteArray.empty), 1, 16) := by kernel_rfl

theorem toStringS_any (w : World) (a : Option Addr) (cap : Nat) (l : List ByteArray) (hl : l.length ≤ 1048576)
    (hS : Strs w a l) :
    Calls Tryz.prog 72 #[.slice a l.length cap] w fun e w' => ∃ b, e = .returned (.slice (some ⟨b, 0, none⟩) l.length l.length) ∧ Strs w' (some ⟨b, 0, none⟩) l ∧ Kept w w' ∧ w.heap.size ≤ b := by
  have hmk := run_make_row' (P := Tryz.prog) 43 9 _ _ Tryz.underlying43 Tryz.infoStr rfl .i64 .i64 l.length (by omega) (by omega)
  go_enter Tryz.func72, Tryz.ntmps72
  go_wp2
  clear hmk
  have hrow := World.rowIs_made w (.string ByteArray.empty) l.length 9
  have hkept : Kept w (w.alloc (.cells (madeCells #[.string ByteArray.empty] l.length) 9)) := Below.alloc (Below.refl _ _) (Nat.le_refl _) _
  go_loopw [4] (fun i wr => ∃ k : Nat, k ≤ l.length ∧ i = .int .i64 k ∧ Kept w wr ∧ (∃ f, wr.rowIs w.heap.size 9 l.length f) ∧ ∀ j, j < k → wr.cell? ⟨w.heap.size, j, none⟩ = some (.string (l.getD j ByteArray.empty))) (fun i _ => l.length - (intOf i).toNat)
  case atStart => exact ⟨0, Nat.zero_le _, rfl, hkept, ⟨_, hrow⟩, fun j hj => absurd hj (Nat.not_lt_zero _)⟩
  case round =>
    obtain ⟨k, hk, rfl, hw, ⟨f, hr⟩, hf⟩ := hrel
    clear hrow hkept
    by_cases hlt : k < l.length
    · obtain ⟨b, o, rfl, hb, hc⟩ := hS.kept hw k hlt
      have hfr := hr.frozen k
      have hold := hr.cell hlt
      have HR := hide hr
      have HF := hide hf
      clear hr hf
      generalize hs : l.getD k ByteArray.empty = s at *
      have HSs := hide hs
      clear hs
      go_wp2
      go_roundw
      case rel =>
        refine ⟨k + 1, by omega, by go_num, Below.setCell hw (Nat.le_refl _) _, ⟨_, (unhide HR).set k (.string s)⟩, fun j hj => ?_⟩
        by_cases e : j = k
        · subst e
          rw [World.cell?_setCell_same _ _ _ hold, unhide HSs]
        · rw [World.cell?_setCell_other _ _ _ _ (by simp <;> omega)]
          exact unhide HF j (by omega)
      case measure => simp [intOf]; omega
    · go_wp2
      go_ret
      have : k = l.length := by omega
      subst this
      exact ⟨w.heap.size, rfl, fun j hj => ⟨w.heap.size, 0, rfl, hr.lt, by rw [Nat.zero_add]; exact hf j hj⟩, hw, Nat.le_refl _⟩

end Go.Proofs.YtpnofnbppnkgaaaGreatDoor

namespace Go.Proofs.YtpnofnbppnkgaaaGreatDoor
open Go.RowKit

theorem convBytes (w : World) (s : ByteArray) : ∃ cap C fr, (convert 9 35 (.string s)).run Tryz.prog w = .ok (.slice (some ⟨w.heap.size, 0, none⟩) s.size cap) (w.drew.alloc (.cells C 5 fr)) ∧
    ∀ j (h : j < s.size), (w.alloc (.cells C 5 fr)).cell? ⟨w.heap.size, j, none⟩ = some (.int .u8 (s[j].toNat : Int)) := by
  refine ⟨_, _, _, run_bytes_of_string (P := Tryz.prog) w 9 35 5 s Tryz.underlying9 Tryz.underlying35 Tryz.underlying5, fun j h => ?_⟩
  rw [World.cell?_alloc_mark]
  unfold bytesRow
  have h' : j < s.data.size := h
  rw [Array.getElem?_append_left (by simpa using h')]
  simp only [Array.getElem?_map, Array.getElem?_eq_getElem h', Option.map_some]
  rfl

end Go.Proofs.YtpnofnbppnkgaaaGreatDoor

namespace Go.Proofs.YtpnofnbppnkgaaaGreatDoor
open Go.RowKit

set_option maxHeartbeats 800000 in
theorem l1NameOk_any (w : World) (s : ByteArray) (hs : s.size ≤ maxLen) :
    Calls Tryz.prog 20 #[.string s] w fun e w' => Says e (NameOk s) ∧ w' = w := by
  unfold maxLen at hs
  by_cases h1 : (1 : Int) ≤ s.size
  · by_cases h2 : (s.size : Int) ≤ 20
    · cases h3 : (s.toList == [45])
      · go_enter Tryz.func20, Tryz.ntmps20
        go_wp2
        go_loop [3] (fun i => ∃ k : Nat, k ≤ s.size ∧ i = .int .i64 k ∧ ∀ j (h : j < s.size), j < k → GoodByte s[j]) (fun i => s.size - (intOf i).toNat)
        case atStart => exact ⟨0, Nat.zero_le _, rfl, fun j _ hj => absurd hj (Nat.not_lt_zero _)⟩
        case round =>
          obtain ⟨k, hk, rfl, hg⟩ := hrel
          have HG := hide hg
          clear hg
          by_cases hlt : k < s.size
          · by_cases b1 : (s[k].toNat : Int) < 33
            · go_wp2
              go_ret
              exact ⟨Says.no fun h => by have := h.2.2.2 k hlt; unfold GoodByte at this; omega, rfl⟩
            · by_cases b2 : 126 < (s[k].toNat : Int)
              · go_wp2
                go_ret
                exact ⟨Says.no fun h => by have := h.2.2.2 k hlt; unfold GoodByte at this; omega, rfl⟩
              · cases b3 : ((s[k].toNat : Int) == 44)
                · go_wp2
                  go_round
                  case rel =>
                    refine ⟨k + 1, by omega, by go_num, fun j hj hjk => ?_⟩
                    by_cases e : j = k
                    · subst e
                      exact ⟨by omega, by omega, by simpa using b3⟩
                    · exact unhide HG j hj (by omega)
                  case measure => simp [intOf]; omega
                · go_wp2
                  go_ret
                  exact ⟨Says.no fun h => by have := h.2.2.2 k hlt; unfold GoodByte at this; simp at b3; omega, rfl⟩
          · go_wp2
            go_ret
            exact ⟨Says.yes ⟨by omega, by omega, h3, fun j hj => unhide HG j hj (by omega)⟩, rfl⟩
      · go_enter Tryz.func20, Tryz.ntmps20
        go_wp2
        go_ret
        exact ⟨Says.no fun h => by have := h.2.2.1; simp [h3] at this, rfl⟩
    · go_enter Tryz.func20, Tryz.ntmps20
      go_wp2
      go_ret
      exact ⟨Says.no fun h => by have := h.2.1; omega, rfl⟩
  · go_enter Tryz.func20, Tryz.ntmps20
    go_wp2
    go_ret
    exact ⟨Says.no fun h => by have := h.1; omega, rfl⟩

set_option maxRecDepth 100000 in
set_option maxHeartbeats 800000 in
theorem validName_any (w : World) (s : ByteArray) (hs : s.size ≤ maxLen) :
    Calls Tryz.prog 40 #[.string s] w fun e w' => Says e (NameOk s) ∧ Kept w w' := by
  unfold maxLen at hs
  by_cases h1 : (1 : Int) ≤ s.size
  · by_cases h2 : (s.size : Int) ≤ 20
    · cases h3 : (s.toList == [45])
      · obtain ⟨cap, C, fr, hconv, hcell⟩ := convBytes w s
        go_enter Tryz.func40, Tryz.ntmps40
        go_wp2
        clear hconv
        go_loopw [20] (fun i wr => ∃ k : Nat, k ≤ s.size ∧ i = .int .i64 k ∧ (∀ j (h : j < s.size), j < k → GoodByte s[j]) ∧ wr = (w.alloc (.cells C 5 fr)).drew) (fun i _ => s.size - (intOf i).toNat)
        case atStart => exact ⟨0, Nat.zero_le _, rfl, fun j _ hj => absurd hj (Nat.not_lt_zero _), rfl⟩
        case round =>
          obtain ⟨k, hk, rfl, hg, rfl⟩ := hrel
          have HG := hide hg
          clear hg
          by_cases hlt : k < s.size
          · have hc := hcell k hlt
            clear hcell
            by_cases b1 : (s[k].toNat : Int) < 33
            · go_wp2
              go_ret
              exact ⟨Says.no fun h => by have := h.2.2.2 k hlt; unfold GoodByte at this; omega, ((Kept.refl _).alloc _).drew⟩
            · by_cases b2 : 126 < (s[k].toNat : Int)
              · go_wp2
                go_ret
                exact ⟨Says.no fun h => by have := h.2.2.2 k hlt; unfold GoodByte at this; omega, ((Kept.refl _).alloc _).drew⟩
              · cases b3 : ((s[k].toNat : Int) == 44)
                · go_wp2
                  go_roundw
                  case rel =>
                    refine ⟨k + 1, by omega, by go_num, fun j hj hjk => ?_, by first | rfl | trivial⟩
                    by_cases e : j = k
                    · subst e
                      exact ⟨by omega, by omega, by simpa using b3⟩
                    · exact unhide HG j hj (by omega)
                  case measure => simp [intOf]; omega
                · go_wp2
                  go_ret
                  exact ⟨Says.no fun h => by have := h.2.2.2 k hlt; unfold GoodByte at this; simp at b3; omega, ((Kept.refl _).alloc _).drew⟩
          · go_wp2
            go_ret
            exact ⟨Says.yes ⟨by omega, by omega, h3, fun j hj => unhide HG j hj (by omega)⟩, ((Kept.refl _).alloc _).drew⟩
      · go_enter Tryz.func40, Tryz.ntmps40
        go_wp2
        go_ret
        exact ⟨Says.no fun h => by have := h.2.2.1; simp [h3] at this, Kept.refl _⟩
    · go_enter Tryz.func40, Tryz.ntmps40
      go_wp2
      go_ret
      exact ⟨Says.no fun h => by have := h.2.1; omega, Kept.refl _⟩
  · go_enter Tryz.func40, Tryz.ntmps40
    go_wp2
    go_ret
    exact ⟨Says.no fun h => by have := h.1; omega, Kept.refl _⟩

end Go.Proofs.YtpnofnbppnkgaaaGreatDoor
