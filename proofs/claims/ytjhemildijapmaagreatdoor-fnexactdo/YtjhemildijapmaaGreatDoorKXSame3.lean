import Derived.Test.YtjhemildijapmaaGreatDoorKXSame2
import Derived.Test.YtjhemildijapmaaGreatDoorKOOrder
import Derived.Deep.RegionLaw
namespace Go.Proofs.YtjhemildijapmaaGreatDoor
open Go.RowKit
theorem listX_ext {l l' : List RunX} (hl : l.length = l'.length) (h : ∀ j, j < l.length → l.getD j RunX.zero = l'.getD j RunX.zero) : l = l' := by
  refine List.ext_getElem hl fun i h1 h2 => ?_
  have := h i h1
  simpa [List.getD, h1, h2] using this
def SaidB (e : Ending) (p : Prop) : Prop := ∃ b, e = .returned (.bool b) ∧ (b = true ↔ p)
set_option maxRecDepth 100000 in
set_option maxHeartbeats 12800000 in
theorem same_any (w : World) (ra ra' d d' : Option Addr) (rc rc' dc dc' : Nat) (roots roots' : List ByteArray) (l l' : List RunX) (hr1 : roots.length ≤ 1048576) (hr2 : roots'.length ≤ 1048576) (hl : l.length ≤ 1048576) (_hl' : l'.length ≤ 1048576)
    (ht : ∀ x ∈ l, x.texts.length ≤ 1048576) (ht' : ∀ x ∈ l', x.texts.length ≤ 1048576) (hR : Strs w ra roots) (hR' : Strs w ra' roots') (hS : RunsX w d l) (hS' : RunsX w d' l') :
    Calls Tryz.prog 43 #[.agg #[.slice ra roots.length rc, .slice d l.length dc], .agg #[.slice ra' roots'.length rc', .slice d' l'.length dc']] w fun e w' => SaidB e (roots = roots' ∧ l = l') ∧ Kept w w' := by
  obtain ⟨W, hW⟩ : ∃ W, W = (w.alloc (.cells #[.slice ra roots.length rc, .slice d l.length dc] 33)).alloc (.cells #[.slice ra' roots'.length rc', .slice d' l'.length dc'] 33) := ⟨_, rfl⟩
  have KW : Kept w W := by rw [hW]; exact ((Kept.refl _).alloc _).alloc _
  obtain ⟨s1, hs1⟩ : ∃ s1, s1 = w.heap.size := ⟨_, rfl⟩
  obtain ⟨s2, hs2⟩ : ∃ s2, s2 = w.heap.size + 1 := ⟨_, rfl⟩
  have hA : W.rangeAt s1 0 [.slice ra roots.length rc, .slice d l.length dc] := by
    rw [hW, hs1]
    exact Kept.range ((Kept.refl _).alloc _) (by simp) (range_new w #[.slice ra roots.length rc, .slice d l.length dc] 33)
  have hB : W.rangeAt s2 0 [.slice ra' roots'.length rc', .slice d' l'.length dc'] := by
    have := range_new (w.alloc (.cells #[.slice ra roots.length rc, .slice d l.length dc] 33)) #[.slice ra' roots'.length rc', .slice d' l'.length dc'] 33
    rw [World.size_alloc] at this
    rw [hW, hs2]
    exact this
  have zW1 : s1 < W.heap.size := by rw [hW, hs1]; simp; omega
  have zW2 : s2 < W.heap.size := by rw [hW, hs2]; simp
  have HW : Hid (∀ w', Kept W w' → (s1 < w'.heap.size ∧ s2 < w'.heap.size) ∧ w'.cell? ⟨s1, 0, none⟩ = some (.slice ra roots.length rc) ∧ w'.cell? ⟨s1, 1, none⟩ = some (.slice d l.length dc) ∧ w'.cell? ⟨s2, 0, none⟩ = some (.slice ra' roots'.length rc') ∧ w'.cell? ⟨s2, 1, none⟩ = some (.slice d' l'.length dc')) := fun w' K => ⟨⟨Nat.lt_of_lt_of_le zW1 K.size, Nat.lt_of_lt_of_le zW2 K.size⟩, (K.cell zW1).trans (hA 0 _ rfl), (K.cell zW1).trans (hA 1 _ rfl), (K.cell zW2).trans (hB 0 _ rfl), (K.cell zW2).trans (hB 1 _ rfl)⟩
  clear hA hB zW1 zW2
  go_enter Tryz.func43, Tryz.ntmps43
  go_upto_region 1 with fail
  rw [← hW, ← hs2, ← hs1]
  clear hW hs1 hs2
  obtain ⟨⟨z1, z2⟩, a0, a1, b0, b1⟩ := HW.out W (Kept.refl _)
  by_cases hr : roots = roots'
  · have hd : decide (roots = roots') = true := decide_eq_true hr
    have Hr := hide hr
    clear hr
    by_cases hlen : l.length = l'.length
    · have hlb : ((l.length : Int) == (l'.length : Int)) = true := by simp [hlen]
      have hlc : ((l.length : Int) != (l'.length : Int)) = false := by simp [hlen]
      have Hlen := hide hlen
      clear hlen
      go_wp2_with (go_at_call 75; refine (sameTexts_any _ ra ra' rc rc' roots roots' hr1 hr2 (hR.kept KW) (hR'.kept KW)).mono ?_; rintro e w1 ⟨rfl, k1⟩; rw [hd]; clear z1 z2 a0 a1 b0 b1; obtain ⟨⟨z1, z2⟩, a0, a1, b0, b1⟩ := HW.out w1 k1)
      go_loopw [5] (fun i wr => ∃ k : Nat, k ≤ l.length ∧ i = .int .i64 k ∧ Hid (∀ j, j < k → l.getD j RunX.zero = l'.getD j RunX.zero) ∧ Kept W wr) (fun i _ => l.length - (intOf i).toNat)
      case atStart => exact ⟨0, Nat.zero_le _, rfl, hide fun j hj => absurd hj (Nat.not_lt_zero _), k1⟩
      case round =>
        obtain ⟨k, hk, rfl, HG, KR⟩ := hrel
        clear z1 z2 a0 a1 b0 b1
        obtain ⟨⟨z1, z2⟩, _, m1, _, m2⟩ := HW.out wr KR
        by_cases hlt : k < l.length
        · have hlt' : k < l'.length := by have := Hlen.out; omega
          obtain ⟨b, o, xa, ca, rfl, hb, hc, hTa, _⟩ := hS.kept (KW.trans KR) k hlt
          obtain ⟨b', o', xb, cb, rfl, hb', hc', hTb, _⟩ := hS'.kept (KW.trans KR) k hlt'
          have hta : (l.getD k RunX.zero).texts.length ≤ 1048576 := by simp only [List.getD, hlt, List.getElem?_eq_getElem, Option.getD_some]; exact ht _ (List.getElem_mem hlt)
          have htb : (l'.getD k RunX.zero).texts.length ≤ 1048576 := by simp only [List.getD, hlt', List.getElem?_eq_getElem, Option.getD_some]; exact ht' _ (List.getElem_mem hlt')
          have i0 : (k : Int) < (l.length : Int) := by omega
          have i1 : (k : Int) < (l'.length : Int) := by omega
          obtain ⟨x, hx⟩ : ∃ x, x = l.getD k RunX.zero := ⟨_, rfl⟩
          obtain ⟨y, hy⟩ : ∃ y, y = l'.getD k RunX.zero := ⟨_, rfl⟩
          rw [← hx] at hc hTa hta
          rw [← hy] at hc' hTb htb
          have HX := hide hx
          have HY := hide hy
          have HTa := hide hTa
          have HTb := hide hTb
          have HSO : Hid (∀ w', Kept wr w' → (fun w' => w'.cell? ⟨s1, 1, none⟩ = some (.slice (some ⟨b, o, none⟩) l.length dc) ∧ w'.cell? ⟨s2, 1, none⟩ = some (.slice (some ⟨b', o', none⟩) l'.length dc') ∧ w'.cell? ⟨b, o + k * 7, none⟩ = some (.string x.name) ∧ w'.cell? ⟨b, o + k * 7 + 1, none⟩ = some (.bool x.over) ∧ w'.cell? ⟨b, o + k * 7 + 2, none⟩ = some (.bool x.fail) ∧ w'.cell? ⟨b, o + k * 7 + 3, none⟩ = some (.string x.text) ∧ w'.cell? ⟨b, o + k * 7 + 4, none⟩ = some (.int .i64 x.at') ∧ w'.cell? ⟨b, o + k * 7 + 5, none⟩ = some (.int .i64 x.visits) ∧ w'.cell? ⟨b, o + k * 7 + 6, none⟩ = some (.slice xa x.texts.length ca) ∧ w'.cell? ⟨b', o' + k * 7, none⟩ = some (.string y.name) ∧ w'.cell? ⟨b', o' + k * 7 + 1, none⟩ = some (.bool y.over) ∧ w'.cell? ⟨b', o' + k * 7 + 2, none⟩ = some (.bool y.fail) ∧ w'.cell? ⟨b', o' + k * 7 + 3, none⟩ = some (.string y.text) ∧ w'.cell? ⟨b', o' + k * 7 + 4, none⟩ = some (.int .i64 y.at') ∧ w'.cell? ⟨b', o' + k * 7 + 5, none⟩ = some (.int .i64 y.visits) ∧ w'.cell? ⟨b', o' + k * 7 + 6, none⟩ = some (.slice xb y.texts.length cb)) w') := fun w' kk => ⟨(kk.cell z1).trans m1, (kk.cell z2).trans m2, (kk.cell hb).trans (hc 0 _ rfl), (kk.cell hb).trans (hc 1 _ rfl), (kk.cell hb).trans (hc 2 _ rfl), (kk.cell hb).trans (hc 3 _ rfl), (kk.cell hb).trans (hc 4 _ rfl), (kk.cell hb).trans (hc 5 _ rfl), (kk.cell hb).trans (hc 6 _ rfl), (kk.cell hb').trans (hc' 0 _ rfl), (kk.cell hb').trans (hc' 1 _ rfl), (kk.cell hb').trans (hc' 2 _ rfl), (kk.cell hb').trans (hc' 3 _ rfl), (kk.cell hb').trans (hc' 4 _ rfl), (kk.cell hb').trans (hc' 5 _ rfl), (kk.cell hb').trans (hc' 6 _ rfl)⟩
          clear hc hc' hx hy hTa hTb
          go_upto_region 6 with fail
          go_cut [39] from 21 to 39 (fun c wx => ∃ q, c = .bool (!q) ∧ (q = true ↔ x = y) ∧ Kept wr wx)
          case first =>
            go_region_held (fun w' => w'.cell? ⟨s1, 1, none⟩ = some (.slice (some ⟨b, o, none⟩) l.length dc) ∧ w'.cell? ⟨s2, 1, none⟩ = some (.slice (some ⟨b', o', none⟩) l'.length dc') ∧ w'.cell? ⟨b, o + k * 7, none⟩ = some (.string x.name) ∧ w'.cell? ⟨b, o + k * 7 + 1, none⟩ = some (.bool x.over) ∧ w'.cell? ⟨b, o + k * 7 + 2, none⟩ = some (.bool x.fail) ∧ w'.cell? ⟨b, o + k * 7 + 3, none⟩ = some (.string x.text) ∧ w'.cell? ⟨b, o + k * 7 + 4, none⟩ = some (.int .i64 x.at') ∧ w'.cell? ⟨b, o + k * 7 + 5, none⟩ = some (.int .i64 x.visits) ∧ w'.cell? ⟨b, o + k * 7 + 6, none⟩ = some (.slice xa x.texts.length ca) ∧ w'.cell? ⟨b', o' + k * 7, none⟩ = some (.string y.name) ∧ w'.cell? ⟨b', o' + k * 7 + 1, none⟩ = some (.bool y.over) ∧ w'.cell? ⟨b', o' + k * 7 + 2, none⟩ = some (.bool y.fail) ∧ w'.cell? ⟨b', o' + k * 7 + 3, none⟩ = some (.string y.text) ∧ w'.cell? ⟨b', o' + k * 7 + 4, none⟩ = some (.int .i64 y.at') ∧ w'.cell? ⟨b', o' + k * 7 + 5, none⟩ = some (.int .i64 y.visits) ∧ w'.cell? ⟨b', o' + k * 7 + 6, none⟩ = some (.slice xb y.texts.length cb)) (exact unhide HSO _ (by repeat (first | (with_reducible exact Kept.refl _) | (with_reducible assumption) | apply Kept.drew))) ((go_at_call 76; refine (sameRun_any _ x y xa xb ca cb hta htb (HTa.out.kept (by repeat (first | (with_reducible exact Kept.refl _) | (with_reducible assumption) | apply Kept.drew))) (HTb.out.kept (by repeat (first | (with_reducible exact Kept.refl _) | (with_reducible assumption) | apply Kept.drew)))).mono ?_; rintro e w1 ⟨⟨q, rfl, hq⟩, kk1⟩; have HQ := hide hq; clear hq; have kq : Kept wr w1 := Kept.trans (by repeat (first | (with_reducible exact Kept.refl _) | (with_reducible assumption) | apply Kept.drew)) kk1))
            all_goals
              go_wp2_with fail
              go_meet
              exact ⟨q, rfl, HQ.out, kq⟩
          case rest =>
            obtain ⟨q, rfl, hq, kq⟩ := hcut
            have HQ := hide hq
            clear hq
            obtain ⟨wq, rfl⟩ : ∃ wq, wq = wc := ⟨_, rfl⟩
            cases q
            · go_wp2_with fail
              go_ret
              refine ⟨⟨false, rfl, ?_⟩, (KW.trans KR).trans kq⟩
              constructor
              · intro h; cases h
              · rintro ⟨_, e⟩
                have := HQ.out.2 (by rw [HX.out, HY.out, e])
                cases this
            · go_wp2_with fail
              go_roundw
              case rel =>
                refine ⟨k + 1, by omega, by go_num, hide fun j hj => ?_, KR.trans kq⟩
                by_cases e : j = k
                · rw [e, ← HX.out, ← HY.out]; exact HQ.out.1 rfl
                · exact HG.out j (by omega)
              case measure => simp [intOf]; omega
        · go_wp2_with fail
          go_ret
          exact ⟨⟨true, rfl, fun _ => ⟨Hr.out, listX_ext Hlen.out fun j hj => HG.out j (by omega)⟩, fun _ => rfl⟩, KW.trans KR⟩
    · have hlb : ((l.length : Int) == (l'.length : Int)) = false := by simp; omega
      have hlc : ((l.length : Int) != (l'.length : Int)) = true := by simp; omega
      go_wp2_with (go_at_call 75; refine (sameTexts_any _ ra ra' rc rc' roots roots' hr1 hr2 (hR.kept KW) (hR'.kept KW)).mono ?_; rintro e w1 ⟨rfl, k1⟩; rw [hd]; clear z1 z2 a0 a1 b0 b1; obtain ⟨⟨z1, z2⟩, a0, a1, b0, b1⟩ := HW.out w1 k1)
      go_ret
      exact ⟨⟨false, rfl, (by constructor; (intro h; cases h); (rintro ⟨_, e⟩; exact absurd (by rw [e]) hlen))⟩, KW.trans k1⟩
  · have hd : decide (roots = roots') = false := decide_eq_false hr
    go_wp2_with (go_at_call 75; refine (sameTexts_any _ ra ra' rc rc' roots roots' hr1 hr2 (hR.kept KW) (hR'.kept KW)).mono ?_; rintro e w1 ⟨rfl, k1⟩; rw [hd]; clear z1 z2 a0 a1 b0 b1; obtain ⟨⟨z1, z2⟩, a0, a1, b0, b1⟩ := HW.out w1 k1)
    go_ret
    exact ⟨⟨false, rfl, (by constructor; (intro h; cases h); (rintro ⟨e, _⟩; exact absurd e hr))⟩, KW.trans k1⟩
end Go.Proofs.YtjhemildijapmaaGreatDoor
