import Derived.Test.YtjhemildijapmaaGreatDoorKXPut0
import Derived.Deep.QuietTactic
import Derived.BigQuiet
namespace Go.Proofs.YtjhemildijapmaaGreatDoor
open Go.RowKit
theorem list_ext_getD {l l' : List ByteArray} (hl : l.length = l'.length) (h : ∀ j, j < l.length → l.getD j ByteArray.empty = l'.getD j ByteArray.empty) : l = l' := by
  refine List.ext_getElem hl fun i h1 h2 => ?_
  have := h i h1
  simpa [List.getD, h1, h2] using this
set_option maxRecDepth 100000 in
set_option maxHeartbeats 3200000 in
theorem sameTexts_any (w : World) (a a' : Option Addr) (c c' : Nat) (l l' : List ByteArray) (hl : l.length ≤ 1048576) (_hl' : l'.length ≤ 1048576) (hS : Strs w a l) (hS' : Strs w a' l') :
    Calls Tryz.prog 75 #[.slice a l.length c, .slice a' l'.length c'] w fun e w' => e = .returned (.bool (decide (l = l'))) ∧ Kept w w' := by
  go_enter Tryz.func75, Tryz.ntmps75
  by_cases hlen : l.length = l'.length
  · have hlb : ((l.length : Int) == (l'.length : Int)) = true := by simp [hlen]
    have hle : (l.length : Int) = (l'.length : Int) := by omega
    go_wp2
    go_loopw [5] (fun i wr => ∃ k : Nat, k ≤ l.length ∧ i = .int .i64 k ∧ Hid (∀ j, j < k → l.getD j ByteArray.empty = l'.getD j ByteArray.empty) ∧ Kept w wr) (fun i _ => l.length - (intOf i).toNat)
    case atStart => exact ⟨0, Nat.zero_le _, rfl, hide fun j hj => absurd hj (Nat.not_lt_zero _), Kept.refl _⟩
    case round =>
      obtain ⟨k, hk, rfl, HG, KW⟩ := hrel
      by_cases hlt : k < l.length
      · obtain ⟨b, o, rfl, hb, hc⟩ := hS.kept KW k hlt
        obtain ⟨b', o', rfl, hb', hc'⟩ := hS'.kept KW k (by omega)
        have i0 : (k : Int) < (l.length : Int) := by omega
        have i1 : (k : Int) < (l'.length : Int) := by omega
        obtain ⟨x, hx⟩ : ∃ x, x = l.getD k ByteArray.empty := ⟨_, rfl⟩
        obtain ⟨y, hy⟩ : ∃ y, y = l'.getD k ByteArray.empty := ⟨_, rfl⟩
        rw [← hx] at hc
        rw [← hy] at hc'
        have HX := hide hx
        have HY := hide hy
        clear hx hy
        cases hne : (x.toList == y.toList)
        · go_upto_region 6 with fail
          go_quiet (fail)
          go_wp2_with fail
          go_ret
          have hnn : ¬ l = l' := fun e => by
            have h1 := beq_no hne
            rw [HX.out, HY.out, e] at h1
            exact h1 rfl
          exact ⟨by rw [decide_eq_false hnn]; rfl, KW.drewN _⟩
        · go_upto_region 6 with fail
          go_quiet (fail)
          go_wp2_with fail
          go_roundw
          case rel =>
            refine ⟨k + 1, by omega, by go_num, hide fun j hj => ?_, KW.drewN _⟩
            by_cases e : j = k
            · rw [e, ← HX.out, ← HY.out]; exact beq_yes hne
            · exact HG.out j (by omega)
          case measure => simp [intOf]; omega
      · go_wp2_with fail
        go_ret
        have hee : l = l' := list_ext_getD hlen fun j hj => HG.out j (by omega)
        exact ⟨by rw [decide_eq_true hee]; rfl, KW⟩
  · have hlb : ((l.length : Int) == (l'.length : Int)) = false := by simp; omega
    have hle : ¬ (l.length : Int) = (l'.length : Int) := by omega
    have hnn : ¬ l = l' := fun e => hlen (by rw [e])
    have HN := hide hnn
    clear hnn
    go_wp2
    go_ret
    exact ⟨by rw [decide_eq_false HN.out]; rfl, Kept.refl _⟩
set_option maxRecDepth 100000 in
set_option maxHeartbeats 12800000 in
theorem sameRun_any (w : World) (r r' : RunX) (xa xa' : Option Addr) (xc xc' : Nat) (hl : r.texts.length ≤ 1048576) (hl' : r'.texts.length ≤ 1048576) (hS : Strs w xa r.texts) (hS' : Strs w xa' r'.texts) :
    Calls Tryz.prog 76 #[.agg #[.string r.name, .bool r.over, .bool r.fail, .string r.text, .int .i64 r.at', .int .i64 r.visits, .slice xa r.texts.length xc], .agg #[.string r'.name, .bool r'.over, .bool r'.fail, .string r'.text, .int .i64 r'.at', .int .i64 r'.visits, .slice xa' r'.texts.length xc']] w fun e w' => (∃ b, e = .returned (.bool b) ∧ (b = true ↔ r = r')) ∧ Kept w w' := by
  obtain ⟨n, ov, fl, tx, at1, vi, ts⟩ := r
  obtain ⟨n', ov', fl', tx', at1', vi', ts'⟩ := r'
  dsimp only at hl hl' hS hS' ⊢
  have k0 : Kept w ((w.alloc (.cells #[.string n, .bool ov, .bool fl, .string tx, .int .i64 at1, .int .i64 vi, .slice xa ts.length xc] 59)).alloc (.cells #[.string n', .bool ov', .bool fl', .string tx', .int .i64 at1', .int .i64 vi', .slice xa' ts'.length xc'] 59)) := ((Kept.refl _).alloc _).alloc _
  go_enter Tryz.func76, Tryz.ntmps76
  cases h0 : (n.toList == n'.toList)
  · go_wp2_with fail
    go_ret
    exact ⟨⟨false, rfl, by simp [beq_no h0]⟩, k0⟩
  · have e0 := hide (beq_yes h0)
    by_cases h1 : ov = ov'
    · subst h1
      have b1 : (ov == ov) = true := by simp
      by_cases h2 : fl = fl'
      · subst h2
        have b2 : (fl == fl) = true := by simp
        cases h3 : (tx.toList == tx'.toList)
        · go_wp2_with fail
          go_ret
          exact ⟨⟨false, rfl, by simp [beq_no h3]⟩, k0⟩
        · have e3 := hide (beq_yes h3)
          by_cases h4 : at1 = at1'
          · have b4 : (at1 == at1') = true := by simp [h4]
            have E4 := hide h4
            clear h4
            by_cases h5 : vi = vi'
            · have b5 : (vi == vi') = true := by simp [h5]
              have E5 := hide h5
              clear h5
              go_wp2_with (go_at_call 75; refine (sameTexts_any _ xa xa' xc xc' ts ts' hl hl' (hS.kept k0) (hS'.kept k0)).mono ?_; rintro e w1 ⟨rfl, k1⟩)
              go_ret
              exact ⟨⟨_, rfl, by simp [e0.out, e3.out, E4.out, E5.out]⟩, k0.trans k1⟩
            · have b5 : (vi == vi') = false := by simp [h5]
              go_wp2_with fail
              go_ret
              exact ⟨⟨false, rfl, by simp [h5]⟩, k0⟩
          · have b4 : (at1 == at1') = false := by simp [h4]
            go_wp2_with fail
            go_ret
            exact ⟨⟨false, rfl, by simp [h4]⟩, k0⟩
      · have b2 : (fl == fl') = false := by simp [h2]
        go_wp2_with fail
        go_ret
        exact ⟨⟨false, rfl, by simp [h2]⟩, k0⟩
    · have b1 : (ov == ov') = false := by simp [h1]
      go_wp2_with fail
      go_ret
      exact ⟨⟨false, rfl, by simp [h1]⟩, k0⟩
end Go.Proofs.YtjhemildijapmaaGreatDoor
