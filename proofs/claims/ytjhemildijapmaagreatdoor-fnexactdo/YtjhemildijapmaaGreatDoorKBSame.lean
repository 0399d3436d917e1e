import Derived.Test.YtjhemildijapmaaGreatDoorKBAscR
import Derived.Test.YtjhemildijapmaaGreatDoorKXSame2
namespace Go.Proofs.YtjhemildijapmaaGreatDoor
open Go.RowKit
def NamedX (r : List RunX) (l : List NodeD) : Prop := r.length = l.length ∧ ∀ i, i < l.length → nameAt l i = (r.getD i RunX.zero).name.toList
set_option maxRecDepth 100000 in
theorem findLitR_any (w : World) (g : Nat) (x : RunX) (xa : Option Addr) (xc : Nat) (key : ByteArray) (hg : g < w.heap.size) (hc : w.cell? ⟨g, 1, none⟩ = some (.func (.func 52) #[] #[])) :
    Calls Tryz.prog 122 #[.agg #[.string x.name, .bool x.over, .bool x.fail, .string x.text, .int .i64 x.at', .int .i64 x.visits, .slice xa x.texts.length xc], .string key, .pointer (some ⟨g, 0, none⟩)] w fun e w' => e = .returned (.int .i64 (cmpD x.name.toList key.toList)) ∧ Kept w w' := by
  have k0 : Kept w (w.alloc (.cells #[.string x.name, .bool x.over, .bool x.fail, .string x.text, .int .i64 x.at', .int .i64 x.visits, .slice xa x.texts.length xc] 59)) := (Kept.refl _).alloc _
  have hgn : ¬ g = w.heap.size := by omega
  go_enter Tryz.func122, Tryz.ntmps122
  go_wp2_with fail
  refine (runName_any _ _ _ _ _ _ _ _ _ rfl).mono ?_
  rintro e w1 ⟨rfl, k1⟩
  go_wp2_with fail
  refine (compare_any _ x.name key).mono ?_
  rintro e w2 ⟨rfl, rfl⟩
  go_wp2
  go_ret
  exact ⟨rfl, k0.trans k1⟩
set_option maxRecDepth 100000 in
set_option maxHeartbeats 1600000 in
theorem searchR_any (w : World) (g : Nat) (a : Option Addr) (cap : Nat) (l : List NodeD) (key : ByteArray) (hl : l.length ≤ 1048576) (hr : Rises l) (hg : g < w.heap.size) (hc : w.cell? ⟨g, 1, none⟩ = some (.func (.func 52) #[] #[])) (r : List RunX) (hP : NamedX r l) (hS : RunsX w a r) :
    Calls Tryz.prog 121 #[.slice a l.length cap, .string key, .func (.func 122) #[] #[.pointer (some ⟨g, 0, none⟩)]] w
      fun e w' => Found l key.toList e ∧ Kept w w' := by
  have HRi := hide hr
  clear hr
  go_enter Tryz.func121, Tryz.ntmps121
  go_wp2
  go_loopw [9, 10] (fun x y wr => ∃ i j : Nat, x = .int .i64 i ∧ y = .int .i64 j ∧ i ≤ j ∧ j ≤ l.length ∧ (∀ t, t < i → Op.bytesLess (nameAt l t) key.toList = true) ∧ (∀ t, j ≤ t → t < l.length → Op.bytesLess (nameAt l t) key.toList = false) ∧ Kept w wr) (fun x y _ => (intOf y).toNat - (intOf x).toNat)
  case atStart => exact ⟨0, l.length, rfl, rfl, Nat.zero_le _, Nat.le_refl _, fun t ht => absurd ht (Nat.not_lt_zero _), fun t h1 h2 => by omega, Kept.refl _⟩
  case round =>
    obtain ⟨i, j, rfl, rfl, hij, hjn, hbe, hbh, hw⟩ := hrel
    have HB := hide (And.intro hbe hbh)
    clear hbe hbh
    by_cases hlt : (i : Int) < j
    · obtain ⟨h, hh⟩ : ∃ h : Nat, h = (i + j) / 2 := ⟨_, rfl⟩
      have hhlt : h < l.length := by omega
      have hhi : i ≤ h := by omega
      have hhj : h < j := by omega
      obtain ⟨b, o, xa, xc, rfl, hb, hcs, _, _⟩ := hS.kept hw h (by rw [hP.1]; exact hhlt)
      obtain ⟨x, hd⟩ : ∃ x, x = r.getD h RunX.zero := ⟨_, rfl⟩
      rw [← hd] at hcs
      have HD : Hid (nameAt l h = x.name.toList) := by rw [hd]; exact hP.2 h hhlt
      have c0 : wr.cell? ⟨b, o + h * 7, none⟩ = some (.string x.name) := hcs 0 _ rfl
      have c1 : wr.cell? ⟨b, o + h * 7 + 1, none⟩ = some (.bool x.over) := hcs 1 _ rfl
      have c2 : wr.cell? ⟨b, o + h * 7 + 2, none⟩ = some (.bool x.fail) := hcs 2 _ rfl
      have c3 : wr.cell? ⟨b, o + h * 7 + 3, none⟩ = some (.string x.text) := hcs 3 _ rfl
      have c4 : wr.cell? ⟨b, o + h * 7 + 4, none⟩ = some (.int .i64 x.at') := hcs 4 _ rfl
      have c5 : wr.cell? ⟨b, o + h * 7 + 5, none⟩ = some (.int .i64 x.visits) := hcs 5 _ rfl
      have c6 : wr.cell? ⟨b, o + h * 7 + 6, none⟩ = some (.slice xa x.texts.length xc) := hcs 6 _ rfl
      clear hd hcs
      have hmid : ((i : Int) + (j : Int)) / 2 = (h : Int) := by omega
      have HH := hide hh
      clear hh
      have hg' : g < wr.heap.size := Nat.lt_of_lt_of_le hg hw.size
      have hc' : wr.cell? ⟨g, 1, none⟩ = some (.func (.func 52) #[] #[]) := by rw [hw.cell hg]; exact hc
      go_wp2_with fail
      refine (findLitR_any _ g x xa xc key hg' hc').mono ?_
      rintro e w1 ⟨rfl, k1⟩
      have hnm : nameAt l h = x.name.toList := HD.out
      have HC : Hid (cmpD x.name.toList key.toList < 0 ↔ Op.bytesLess (nameAt l h) key.toList = true) := by rw [hnm]; exact cmpD_neg
      clear c0 c1 c2 c3 c4 c5 c6 hnm
      generalize cmpD x.name.toList key.toList = q at *
      have hw1 := hw.trans k1
      clear hw k1
      by_cases hneg : q < 0
      · go_wp2
        go_roundw
        case rel =>
          obtain ⟨hbe, hbh⟩ := HB.out
          refine ⟨h + 1, j, by go_num, rfl, by omega, hjn, fun t ht => ?_, hbh, hw1⟩
          have hle := HC.out.1 hneg
          by_cases e : t = h
          · subst e; exact hle
          · exact less_trans _ _ _ (HRi.out t h (by omega) hhlt) hle
        case measure => simp [intOf]; omega
      · go_wp2
        go_roundw
        case rel =>
          obtain ⟨hbe, hbh⟩ := HB.out
          refine ⟨i, h, rfl, by go_num, hhi, by omega, hbe, fun t h1 h2 => ?_, hw1⟩
          have hle : Op.bytesLess (nameAt l h) key.toList = false := by
            cases hq : Op.bytesLess (nameAt l h) key.toList
            · rfl
            · have := HC.out.2 hq
              omega
          by_cases e : t = h
          · subst e; exact hle
          · cases hq : Op.bytesLess (nameAt l t) key.toList
            · rfl
            · rw [less_trans _ _ _ (HRi.out h t (by omega) h2) hq] at hle
              cases hle
        case measure => simp [intOf]; omega
    · have hij' : i = j := by omega
      subst hij'
      have HPl : Hid (Place l key.toList i) := ⟨hjn, HB.out.1, HB.out.2⟩
      clear HB
      by_cases hin : i < l.length
      · obtain ⟨b, o, xa, xc, rfl, hb, hcs, _, _⟩ := hS.kept hw i (by rw [hP.1]; exact hin)
        obtain ⟨x, hd⟩ : ∃ x, x = r.getD i RunX.zero := ⟨_, rfl⟩
        rw [← hd] at hcs
        have HD : Hid (nameAt l i = x.name.toList) := by rw [hd]; exact hP.2 i hin
        have c0 : wr.cell? ⟨b, o + i * 7, none⟩ = some (.string x.name) := hcs 0 _ rfl
        have c1 : wr.cell? ⟨b, o + i * 7 + 1, none⟩ = some (.bool x.over) := hcs 1 _ rfl
        have c2 : wr.cell? ⟨b, o + i * 7 + 2, none⟩ = some (.bool x.fail) := hcs 2 _ rfl
        have c3 : wr.cell? ⟨b, o + i * 7 + 3, none⟩ = some (.string x.text) := hcs 3 _ rfl
        have c4 : wr.cell? ⟨b, o + i * 7 + 4, none⟩ = some (.int .i64 x.at') := hcs 4 _ rfl
        have c5 : wr.cell? ⟨b, o + i * 7 + 5, none⟩ = some (.int .i64 x.visits) := hcs 5 _ rfl
        have c6 : wr.cell? ⟨b, o + i * 7 + 6, none⟩ = some (.slice xa x.texts.length xc) := hcs 6 _ rfl
        clear hd hcs
        have hg' : g < wr.heap.size := Nat.lt_of_lt_of_le hg hw.size
        have hc' : wr.cell? ⟨g, 1, none⟩ = some (.func (.func 52) #[] #[]) := by rw [hw.cell hg]; exact hc
        have hin' : (i : Int) < l.length := by omega
        go_wp2_with fail
        refine (findLitR_any _ g x xa xc key hg' hc').mono ?_
        rintro e w1 ⟨rfl, k1⟩
        have hnm : nameAt l i = x.name.toList := HD.out
        have HC : Hid (cmpD x.name.toList key.toList = 0 ↔ nameAt l i = key.toList) := by rw [hnm]; exact cmpD_zero
        clear c0 c1 c2 c3 c4 c5 c6 hnm
        generalize cmpD x.name.toList key.toList = q at *
        have hw1 := hw.trans k1
        clear hw k1
        go_wp2
        go_ret2
        refine ⟨Found.mk i _ rfl HPl.out ?_, hw1⟩
        rw [← HC.out]
        simp [hin]
      · have hin' : ¬ (i : Int) < l.length := by omega
        go_wp2
        go_ret2
        exact ⟨Found.mk i false rfl HPl.out (by simp; intro h; exact absurd h hin), hw⟩
set_option maxRecDepth 100000 in
set_option maxHeartbeats 800000 in
theorem findR_any (w : World) (a : Option Addr) (cap : Nat) (l : List NodeD) (key : ByteArray) (hl : l.length ≤ 1048576) (hr : Rises l) (r : List RunX) (hP : NamedX r l) (hS : RunsX w a r) :
    Calls Tryz.prog 90 #[.agg #[.slice a l.length cap, .func (.func 52) #[] #[]], .string key] w
      fun e w' => Found l key.toList e ∧ Kept w w' := by
  have k0 : Kept w (w.alloc (.cells #[.slice a l.length cap, .func (.func 52) #[] #[]] 101)) := (Kept.refl _).alloc _
  go_enter Tryz.func90, Tryz.ntmps90
  go_wp2_with fail
  refine (searchR_any _ w.heap.size a cap l key hl hr (by simp) (by simp) r hP (hS.kept k0)).mono ?_
  rintro e w1 ⟨hfo, k1⟩
  obtain ⟨p, f, rfl, hp, hf⟩ := hfo
  have HP := hide hp
  have HF := hide hf
  clear hp hf
  go_wp2
  go_ret2
  exact ⟨Found.mk p f rfl HP.out HF.out, k0.trans k1⟩
def nodesX (l : List RunX) : List NodeD := l.map fun x => ⟨x.name, 0, []⟩
theorem nodesX_named (l : List RunX) : NamedX l (nodesX l) := by
  refine ⟨by simp [nodesX], fun i hi => ?_⟩
  have hi' : i < l.length := by simpa [nodesX] using hi
  simp [nameAt, nodesX, List.getD, hi']
theorem nodesX_rises {l : List RunX} (h : AscX l) : Rises (nodesX l) := by
  intro i j hij hj
  have hj' : j < l.length := by simpa [nodesX] using hj
  rw [(nodesX_named l).2 i (by omega), (nodesX_named l).2 j hj]
  have := List.pairwise_iff_getElem.1 h i j (by omega) hj' hij
  simpa [List.getD, hj', (by omega : i < l.length), lessX] using this
def FindX (l : List RunX) (n : ByteArray) (e : Ending) : Prop :=
  ∃ (p : Nat) (f : Bool), e = .returned (.tuple #[.int .i64 p, .bool f]) ∧ p ≤ l.length ∧ (if f then p < l.length ∧ envOf l n = some (l.getD p RunX.zero) else envOf l n = none)
theorem getD_mem {l : List RunX} {p : Nat} (h : p < l.length) : l.getD p RunX.zero ∈ l := by
  rw [List.getD_eq_getElem?_getD, List.getElem?_eq_getElem h]
  exact List.getElem_mem h
theorem found_env {l : List RunX} (hA : AscX l) {n : ByteArray} {e : Ending} (h : Found (nodesX l) n.toList e) : FindX l n e := by
  obtain ⟨p, f, rfl, ⟨hp, hb, ha⟩, hf⟩ := h
  have hlen : (nodesX l).length = l.length := (nodesX_named l).1.symm
  rw [hlen] at hp ha hf
  have hN : ∀ i, i < l.length → nameAt (nodesX l) i = (l.getD i RunX.zero).name.toList := fun i hi => (nodesX_named l).2 i (by omega)
  refine ⟨p, f, rfl, hp, ?_⟩
  cases f with
  | true =>
    obtain ⟨h1, h2⟩ := hf.1 rfl
    rw [hN p h1] at h2
    refine ⟨h1, ?_⟩
    rw [← toList_inj.1 h2]
    exact asc_env hA (getD_mem h1)
  | false =>
    cases he : envOf l n with
    | none => rfl
    | some r =>
      exfalso
      obtain ⟨hm, hn⟩ := env_mem he
      obtain ⟨k, hk, hkr⟩ := List.getElem_of_mem hm
      have hg : (l.getD k RunX.zero) = r := by simp [List.getD, hk, hkr]
      have hnk : nameAt (nodesX l) k = n.toList := by rw [hN k hk, hg, hn]
      have hpk : p ≤ k := by
        rcases Nat.lt_or_ge k p with h | h
        · have := hb k h
          rw [hnk, less_irrefl] at this
          cases this
        · exact h
      rcases Nat.lt_or_eq_of_le hpk with h | h
      · have h1 := ha p (Nat.le_refl _) (by omega)
        have h2 := nodesX_rises hA p k h (by omega)
        rw [hnk, h1] at h2
        cases h2
      · subst h
        have := hf.2 ⟨hk, hnk⟩
        cases this
theorem findX_any (w : World) (a : Option Addr) (cap : Nat) (l : List RunX) (n : ByteArray) (hl : l.length ≤ 1048576) (hA : AscX l) (hS : RunsX w a l) :
    Calls Tryz.prog 90 #[.agg #[.slice a l.length cap, .func (.func 52) #[] #[]], .string n] w
      fun e w' => FindX l n e ∧ Kept w w' := by
  have hlen : (nodesX l).length = l.length := (nodesX_named l).1.symm
  have h := findR_any w a cap (nodesX l) n (by omega) (nodesX_rises hA) l (nodesX_named l) hS
  rw [hlen] at h
  exact h.mono fun e w' hh => ⟨found_env hA hh.1, hh.2⟩
theorem says_dec {P Q : Prop} [Decidable P] (h : P ↔ Q) : Says (.returned (.bool (decide P))) Q := by
  by_cases hp : P
  · rw [decide_eq_true hp]; exact Says.yes (h.1 hp)
  · rw [decide_eq_false hp]; exact Says.no fun hq => hp (h.2 hq)
set_option maxRecDepth 100000 in
set_option maxHeartbeats 1600000 in
theorem behind_any (w : World) (tb : Nat) (r x : RunX) (xa : Option Addr) (xc : Nat) (ht : tb < w.heap.size) (hc : w.cell? ⟨tb, 5, none⟩ = some (.int .i64 r.visits)) :
    Calls Tryz.prog 91 #[.pointer (some ⟨tb, 0, none⟩), .agg #[.string x.name, .bool x.over, .bool x.fail, .string x.text, .int .i64 x.at', .int .i64 x.visits, .slice xa x.texts.length xc]] w
      fun e w' => Says e (behindI r x) ∧ Kept w w' := by
  have k0 : Kept w (w.alloc (.cells #[.string x.name, .bool x.over, .bool x.fail, .string x.text, .int .i64 x.at', .int .i64 x.visits, .slice xa x.texts.length xc] 59)) := (Kept.refl _).alloc _
  have hne : ¬ tb = w.heap.size := by omega
  unfold behindI
  cases hov : x.over
  · rw [hov] at k0
    go_enter Tryz.func91, Tryz.ntmps91
    go_wp2
    go_region
    all_goals
      go_wp2
      go_ret
      exact ⟨says_dec (by simp), k0.drew⟩
  · rw [hov] at k0
    go_enter Tryz.func91, Tryz.ntmps91
    go_wp2
    go_region
    all_goals
      go_wp2
      go_ret
      exact ⟨Says.yes (Or.inl trivial), k0.drew⟩
set_option maxRecDepth 100000 in
set_option maxHeartbeats 3200000 in
theorem equalTexts_any (w : World) (a a' : Option Addr) (c c' : Nat) (l l' : List ByteArray) (hl : l.length ≤ 1048576) (_hl' : l'.length ≤ 1048576) (hS : Strs w a l) (hS' : Strs w a' l') :
    Calls Tryz.prog 92 #[.slice a l.length c, .slice a' l'.length c'] w fun e w' => e = .returned (.bool (decide (l = l'))) ∧ Kept w w' := by
  go_enter Tryz.func92, Tryz.ntmps92
  by_cases hlen : l.length = l'.length
  · have hlb : ((l.length : Int) != (l'.length : Int)) = false := by simp [hlen]
    have hle : (l.length : Int) = (l'.length : Int) := by omega
    go_wp2
    go_loopw [13] (fun i wr => ∃ k : Nat, k ≤ l.length ∧ i = .int .i64 k ∧ Hid (∀ j, j < k → l.getD j ByteArray.empty = l'.getD j ByteArray.empty) ∧ Kept w wr) (fun i _ => l.length - (intOf i).toNat)
    case atStart => exact ⟨0, Nat.zero_le _, rfl, hide fun j hj => absurd hj (Nat.not_lt_zero _), Kept.refl _⟩
    case round =>
      obtain ⟨k, hk, rfl, HG, KW⟩ := hrel
      by_cases hlt : k < l.length
      · obtain ⟨b, o, rfl, hb, hc⟩ := hS.kept KW k hlt
        obtain ⟨b', o', rfl, hb', hc'⟩ := hS'.kept KW k (by omega)
        have i0 : (k : Int) < (l.length : Int) := by omega
        have i1 : (k : Int) < (l'.length : Int) := by omega
        obtain ⟨x, hx⟩ : ∃ x, x = l.getD k ByteArray.empty := ⟨_, rfl⟩
        obtain ⟨y, hy⟩ : ∃ y, y = l'.getD k ByteArray.empty := ⟨_, rfl⟩
        rw [← hx] at hc
        rw [← hy] at hc'
        have HX := hide hx
        have HY := hide hy
        clear hx hy
        cases hne : (x.toList == y.toList)
        · have hnb : (x.toList != y.toList) = true := by rw [bne, hne]; rfl
          go_upto_region 6 with fail
          go_quiet (fail)
          go_wp2_with fail
          go_ret
          have hnn : ¬ l = l' := fun e => by
            have h1 := beq_no hne
            rw [HX.out, HY.out, e] at h1
            exact h1 rfl
          exact ⟨by rw [decide_eq_false hnn]; rfl, KW.drewN _⟩
        · have hnb : (x.toList != y.toList) = false := by rw [bne, hne]; rfl
          go_upto_region 6 with fail
          go_quiet (fail)
          go_wp2_with fail
          go_roundw
          case rel =>
            refine ⟨k + 1, by omega, by go_num, hide fun j hj => ?_, KW.drewN _⟩
            by_cases e : j = k
            · rw [e, ← HX.out, ← HY.out]; exact beq_yes hne
            · exact HG.out j (by omega)
          case measure => simp [intOf]; omega
      · go_wp2_with fail
        go_ret
        have hee : l = l' := list_ext_getD hlen fun j hj => HG.out j (by omega)
        exact ⟨by rw [decide_eq_true hee]; rfl, KW⟩
  · have hlb : ((l.length : Int) != (l'.length : Int)) = true := by simp; omega
    have hle : ¬ (l.length : Int) = (l'.length : Int) := by omega
    have hnn : ¬ l = l' := fun e => hlen (by rw [e])
    have HN := hide hnn
    clear hnn
    go_wp2
    go_ret
    exact ⟨by rw [decide_eq_false HN.out]; rfl, Kept.refl _⟩
set_option maxRecDepth 100000 in
set_option maxHeartbeats 6400000 in
theorem sameRunB_any (w : World) (tb : Nat) (r r' : RunX) (ta xa : Option Addr) (tc xc : Nat) (ht : tb < w.heap.size) (hc : w.rangeAt tb 0 (r.cells ta tc)) (hl : r.texts.length ≤ 1048576) (hl' : r'.texts.length ≤ 1048576) (hS : Strs w ta r.texts) (hS' : Strs w xa r'.texts) :
    Calls Tryz.prog 56 #[.pointer (some ⟨tb, 0, none⟩), .agg #[.string r'.name, .bool r'.over, .bool r'.fail, .string r'.text, .int .i64 r'.at', .int .i64 r'.visits, .slice xa r'.texts.length xc]] w
      fun e w' => Says e (r = r') ∧ Kept w w' := by
  obtain ⟨n, ov, fl, tx, at1, vi, ts⟩ := r
  obtain ⟨n', ov', fl', tx', at1', vi', ts'⟩ := r'
  dsimp only at hl hl' hS hS' ⊢
  have k0 : Kept w (w.alloc (.cells #[.string n', .bool ov', .bool fl', .string tx', .int .i64 at1', .int .i64 vi', .slice xa ts'.length xc] 59)) := (Kept.refl _).alloc _
  have hne : ¬ tb = w.heap.size := by omega
  have htW : tb < (w.alloc (.cells #[.string n', .bool ov', .bool fl', .string tx', .int .i64 at1', .int .i64 vi', .slice xa ts'.length xc] 59)).heap.size := by simp; omega
  have hxW : w.heap.size < (w.alloc (.cells #[.string n', .bool ov', .bool fl', .string tx', .int .i64 at1', .int .i64 vi', .slice xa ts'.length xc] 59)).heap.size := by simp
  have c0 : (w.alloc (.cells #[.string n', .bool ov', .bool fl', .string tx', .int .i64 at1', .int .i64 vi', .slice xa ts'.length xc] 59)).cell? ⟨tb, 0, none⟩ = some (.string n) := (k0.cell ht).trans (by have h := hc 0 _ rfl; simpa using h)
  have d0 : (w.alloc (.cells #[.string n', .bool ov', .bool fl', .string tx', .int .i64 at1', .int .i64 vi', .slice xa ts'.length xc] 59)).cell? ⟨w.heap.size, 0, none⟩ = some (.string n') := range_new w #[.string n', .bool ov', .bool fl', .string tx', .int .i64 at1', .int .i64 vi', .slice xa ts'.length xc] 59 0 _ rfl
  have c1 : (w.alloc (.cells #[.string n', .bool ov', .bool fl', .string tx', .int .i64 at1', .int .i64 vi', .slice xa ts'.length xc] 59)).cell? ⟨tb, 1, none⟩ = some (.bool ov) := (k0.cell ht).trans (by have h := hc 1 _ rfl; simpa using h)
  have d1 : (w.alloc (.cells #[.string n', .bool ov', .bool fl', .string tx', .int .i64 at1', .int .i64 vi', .slice xa ts'.length xc] 59)).cell? ⟨w.heap.size, 1, none⟩ = some (.bool ov') := range_new w #[.string n', .bool ov', .bool fl', .string tx', .int .i64 at1', .int .i64 vi', .slice xa ts'.length xc] 59 1 _ rfl
  have c2 : (w.alloc (.cells #[.string n', .bool ov', .bool fl', .string tx', .int .i64 at1', .int .i64 vi', .slice xa ts'.length xc] 59)).cell? ⟨tb, 2, none⟩ = some (.bool fl) := (k0.cell ht).trans (by have h := hc 2 _ rfl; simpa using h)
  have d2 : (w.alloc (.cells #[.string n', .bool ov', .bool fl', .string tx', .int .i64 at1', .int .i64 vi', .slice xa ts'.length xc] 59)).cell? ⟨w.heap.size, 2, none⟩ = some (.bool fl') := range_new w #[.string n', .bool ov', .bool fl', .string tx', .int .i64 at1', .int .i64 vi', .slice xa ts'.length xc] 59 2 _ rfl
  have c3 : (w.alloc (.cells #[.string n', .bool ov', .bool fl', .string tx', .int .i64 at1', .int .i64 vi', .slice xa ts'.length xc] 59)).cell? ⟨tb, 3, none⟩ = some (.string tx) := (k0.cell ht).trans (by have h := hc 3 _ rfl; simpa using h)
  have d3 : (w.alloc (.cells #[.string n', .bool ov', .bool fl', .string tx', .int .i64 at1', .int .i64 vi', .slice xa ts'.length xc] 59)).cell? ⟨w.heap.size, 3, none⟩ = some (.string tx') := range_new w #[.string n', .bool ov', .bool fl', .string tx', .int .i64 at1', .int .i64 vi', .slice xa ts'.length xc] 59 3 _ rfl
  have c4 : (w.alloc (.cells #[.string n', .bool ov', .bool fl', .string tx', .int .i64 at1', .int .i64 vi', .slice xa ts'.length xc] 59)).cell? ⟨tb, 4, none⟩ = some (.int .i64 at1) := (k0.cell ht).trans (by have h := hc 4 _ rfl; simpa using h)
  have d4 : (w.alloc (.cells #[.string n', .bool ov', .bool fl', .string tx', .int .i64 at1', .int .i64 vi', .slice xa ts'.length xc] 59)).cell? ⟨w.heap.size, 4, none⟩ = some (.int .i64 at1') := range_new w #[.string n', .bool ov', .bool fl', .string tx', .int .i64 at1', .int .i64 vi', .slice xa ts'.length xc] 59 4 _ rfl
  have c5 : (w.alloc (.cells #[.string n', .bool ov', .bool fl', .string tx', .int .i64 at1', .int .i64 vi', .slice xa ts'.length xc] 59)).cell? ⟨tb, 5, none⟩ = some (.int .i64 vi) := (k0.cell ht).trans (by have h := hc 5 _ rfl; simpa using h)
  have d5 : (w.alloc (.cells #[.string n', .bool ov', .bool fl', .string tx', .int .i64 at1', .int .i64 vi', .slice xa ts'.length xc] 59)).cell? ⟨w.heap.size, 5, none⟩ = some (.int .i64 vi') := range_new w #[.string n', .bool ov', .bool fl', .string tx', .int .i64 at1', .int .i64 vi', .slice xa ts'.length xc] 59 5 _ rfl
  have c6 : (w.alloc (.cells #[.string n', .bool ov', .bool fl', .string tx', .int .i64 at1', .int .i64 vi', .slice xa ts'.length xc] 59)).cell? ⟨tb, 6, none⟩ = some (.slice ta ts.length tc) := (k0.cell ht).trans (by have h := hc 6 _ rfl; simpa using h)
  have d6 : (w.alloc (.cells #[.string n', .bool ov', .bool fl', .string tx', .int .i64 at1', .int .i64 vi', .slice xa ts'.length xc] 59)).cell? ⟨w.heap.size, 6, none⟩ = some (.slice xa ts'.length xc) := range_new w #[.string n', .bool ov', .bool fl', .string tx', .int .i64 at1', .int .i64 vi', .slice xa ts'.length xc] 59 6 _ rfl
  clear hc
  go_enter Tryz.func56, Tryz.ntmps56
  go_upto_region 1 with fail
  generalize hW : (w.alloc (.cells #[.string n', .bool ov', .bool fl', .string tx', .int .i64 at1', .int .i64 vi', .slice xa ts'.length xc] 59)) = W at *
  clear hW
  go_cut [5] from 7 to 34 (fun s5 wx => Kept W wx ∧ s5 = .bool (decide (ov = ov' ∧ fl = fl' ∧ tx = tx')))
  case first =>
    by_cases h1 : ov = ov'
    · have b1 : (ov == ov') = true := by simp [h1]
      by_cases h2 : fl = fl'
      · have b2 : (fl == fl') = true := by simp [h2]
        have H1 := hide h1
        have H2 := hide h2
        clear h1 h2
        cases h3 : (tx.toList == tx'.toList)
        · go_region
          all_goals
            go_wp2_with fail
            go_meet
            exact ⟨(Kept.refl _).drew, by rw [decide_eq_false (fun h => beq_no h3 (by rw [h.2.2]))]⟩
        · go_region
          all_goals
            go_wp2_with fail
            go_meet
            exact ⟨(Kept.refl _).drew, by rw [decide_eq_true ⟨H1.out, H2.out, beq_yes h3⟩]⟩
      · have b2 : (fl == fl') = false := by simp [h2]
        have H1 := hide h1
        have H2 := hide h2
        clear h1 h2
        go_region
        all_goals
          go_wp2_with fail
          go_meet
          exact ⟨(Kept.refl _).drew, by rw [decide_eq_false (fun h => H2.out h.2.1)]⟩
    · have b1 : (ov == ov') = false := by simp [h1]
      have H1 := hide h1
      clear h1
      go_region
      all_goals
        go_wp2_with fail
        go_meet
        exact ⟨(Kept.refl _).drew, by rw [decide_eq_false (fun h => H1.out h.1)]⟩
  case rest =>
    obtain ⟨kk, rfl⟩ := hcut
    generalize hE : decide (ov = ov' ∧ fl = fl' ∧ tx = tx') = sE
    have HE := hide hE
    clear hE
    obtain ⟨wA, rfl⟩ : ∃ wA, wA = wc := ⟨_, rfl⟩
    have t0 : wA.cell? ⟨tb, 0, none⟩ = some (.string n) := (kk.cell htW).trans c0
    have x0 : wA.cell? ⟨w.heap.size, 0, none⟩ = some (.string n') := (kk.cell hxW).trans d0
    have t1 : wA.cell? ⟨tb, 1, none⟩ = some (.bool ov) := (kk.cell htW).trans c1
    have x1 : wA.cell? ⟨w.heap.size, 1, none⟩ = some (.bool ov') := (kk.cell hxW).trans d1
    have t2 : wA.cell? ⟨tb, 2, none⟩ = some (.bool fl) := (kk.cell htW).trans c2
    have x2 : wA.cell? ⟨w.heap.size, 2, none⟩ = some (.bool fl') := (kk.cell hxW).trans d2
    have t3 : wA.cell? ⟨tb, 3, none⟩ = some (.string tx) := (kk.cell htW).trans c3
    have x3 : wA.cell? ⟨w.heap.size, 3, none⟩ = some (.string tx') := (kk.cell hxW).trans d3
    have t4 : wA.cell? ⟨tb, 4, none⟩ = some (.int .i64 at1) := (kk.cell htW).trans c4
    have x4 : wA.cell? ⟨w.heap.size, 4, none⟩ = some (.int .i64 at1') := (kk.cell hxW).trans d4
    have t5 : wA.cell? ⟨tb, 5, none⟩ = some (.int .i64 vi) := (kk.cell htW).trans c5
    have x5 : wA.cell? ⟨w.heap.size, 5, none⟩ = some (.int .i64 vi') := (kk.cell hxW).trans d5
    have t6 : wA.cell? ⟨tb, 6, none⟩ = some (.slice ta ts.length tc) := (kk.cell htW).trans c6
    have x6 : wA.cell? ⟨w.heap.size, 6, none⟩ = some (.slice xa ts'.length xc) := (kk.cell hxW).trans d6
    clear c0 c1 c2 c3 c4 c5 c6 d0 d1 d2 d3 d4 d5 d6
    have K1 := k0.trans kk
    have htA : tb < wA.heap.size := Nat.lt_of_lt_of_le htW kk.size
    have hxA : w.heap.size < wA.heap.size := Nat.lt_of_lt_of_le hxW kk.size
    clear kk htW hxW k0
    go_upto_region 2 with fail
    go_cut [6] from 35 to 52 (fun s6 wx => Kept wA wx ∧ s6 = .bool (decide (at1 = at1' ∧ vi = vi')))
    case first =>
      by_cases h1 : at1 = at1'
      · have b1 : (at1 == at1') = true := by simp [h1]
        have H1 := hide h1
        clear h1
        by_cases h2 : vi = vi'
        · have b2 : (vi == vi') = true := by simp [h2]
          have H2 := hide h2
          clear h2
          go_region
          all_goals
            go_wp2_with fail
            go_meet
            exact ⟨(Kept.refl _).drew, by rw [decide_eq_true ⟨H1.out, H2.out⟩]⟩
        · have b2 : (vi == vi') = false := by simp [h2]
          have H2 := hide h2
          clear h2
          go_region
          all_goals
            go_wp2_with fail
            go_meet
            exact ⟨(Kept.refl _).drew, by rw [decide_eq_false (fun h => H2.out h.2)]⟩
      · have b1 : (at1 == at1') = false := by simp [h1]
        have H1 := hide h1
        clear h1
        go_region
        all_goals
          go_wp2_with fail
          go_meet
          exact ⟨(Kept.refl _).drew, by rw [decide_eq_false (fun h => H1.out h.1)]⟩
    case rest =>
      obtain ⟨kk, rfl⟩ := hcut
      obtain ⟨wB, rfl⟩ : ∃ wB, wB = wc := ⟨_, rfl⟩
      generalize hP : decide (at1 = at1' ∧ vi = vi') = sP
      have HP := hide hP
      clear hP
      have u0 : wB.cell? ⟨tb, 0, none⟩ = some (.string n) := (kk.cell htA).trans t0
      have y0 : wB.cell? ⟨w.heap.size, 0, none⟩ = some (.string n') := (kk.cell hxA).trans x0
      have u1 : wB.cell? ⟨tb, 1, none⟩ = some (.bool ov) := (kk.cell htA).trans t1
      have y1 : wB.cell? ⟨w.heap.size, 1, none⟩ = some (.bool ov') := (kk.cell hxA).trans x1
      have u2 : wB.cell? ⟨tb, 2, none⟩ = some (.bool fl) := (kk.cell htA).trans t2
      have y2 : wB.cell? ⟨w.heap.size, 2, none⟩ = some (.bool fl') := (kk.cell hxA).trans x2
      have u3 : wB.cell? ⟨tb, 3, none⟩ = some (.string tx) := (kk.cell htA).trans t3
      have y3 : wB.cell? ⟨w.heap.size, 3, none⟩ = some (.string tx') := (kk.cell hxA).trans x3
      have u4 : wB.cell? ⟨tb, 4, none⟩ = some (.int .i64 at1) := (kk.cell htA).trans t4
      have y4 : wB.cell? ⟨w.heap.size, 4, none⟩ = some (.int .i64 at1') := (kk.cell hxA).trans x4
      have u5 : wB.cell? ⟨tb, 5, none⟩ = some (.int .i64 vi) := (kk.cell htA).trans t5
      have y5 : wB.cell? ⟨w.heap.size, 5, none⟩ = some (.int .i64 vi') := (kk.cell hxA).trans x5
      have u6 : wB.cell? ⟨tb, 6, none⟩ = some (.slice ta ts.length tc) := (kk.cell htA).trans t6
      have y6 : wB.cell? ⟨w.heap.size, 6, none⟩ = some (.slice xa ts'.length xc) := (kk.cell hxA).trans x6
      have K2 := K1.trans kk
      have htB : tb < wB.heap.size := Nat.lt_of_lt_of_le htA kk.size
      have hxB : w.heap.size < wB.heap.size := Nat.lt_of_lt_of_le hxA kk.size
      clear kk htA hxA K1 t0 t1 t2 t3 t4 t5 t6 x0 x1 x2 x3 x4 x5 x6
      have hT := hS.kept K2
      have hX := hS'.kept K2
      clear hS hS'
      go_upto_region 3 with fail
      cases h0 : (n.toList == n'.toList)
      · go_region
        all_goals
          go_wp2_with fail
          go_ret
          exact ⟨Says.no (by simp [beq_no h0]), K2.drew⟩
      · have E0 := hide (beq_yes h0)
        cases sE
        · have hno := of_decide_eq_false HE.out
          have HN := hide hno
          clear hno
          go_region
          all_goals
            go_wp2_with fail
            go_ret
            exact ⟨Says.no (fun h => absurd (by first | exact ⟨h.2.1, h.2.2.1, h.2.2.2.1⟩ | (rw [RunX.mk.injEq] at h; exact ⟨h.2.1, h.2.2.1, h.2.2.2.1⟩)) HN.out), K2.drew⟩
        · cases sP
          · have hno := of_decide_eq_false HP.out
            have HN := hide hno
            clear hno
            go_region
            all_goals
              go_wp2_with fail
              go_ret
              exact ⟨Says.no (fun h => absurd (by first | exact ⟨h.2.2.2.2.1, h.2.2.2.2.2.1⟩ | (rw [RunX.mk.injEq] at h; exact ⟨h.2.2.2.2.1, h.2.2.2.2.2.1⟩)) HN.out), K2.drew⟩
          · have HS0 : True := trivial
            have hSof : ∀ w', Kept wB w' → (fun w' => w'.cell? ⟨tb, 0, none⟩ = some (.string n) ∧ w'.cell? ⟨w.heap.size, 0, none⟩ = some (.string n') ∧ w'.cell? ⟨tb, 6, none⟩ = some (.slice ta ts.length tc) ∧ w'.cell? ⟨w.heap.size, 6, none⟩ = some (.slice xa ts'.length xc)) w' := fun w' kk => ⟨(kk.cell htB).trans u0, (kk.cell hxB).trans y0, (kk.cell htB).trans u6, (kk.cell hxB).trans y6⟩
            have HSO := hide hSof
            clear hSof
            refine UpTo.region (by kernel_rfl) (fun w' => w'.cell? ⟨tb, 0, none⟩ = some (.string n) ∧ w'.cell? ⟨w.heap.size, 0, none⟩ = some (.string n') ∧ w'.cell? ⟨tb, 6, none⟩ = some (.slice ta ts.length tc) ∧ w'.cell? ⟨w.heap.size, 6, none⟩ = some (.slice xa ts'.length xc)) 24 (HSO.out _ ((Kept.refl wB).drew)) (fun hHeld => ?_)
            have KD : Kept wB wB.drew := (Kept.refl wB).drew
            generalize hwd : wB.drew = wd at hHeld KD ⊢
            clear hwd
            refine UpTo.tk 0 hHeld ?_
            refine UpTo.tk 1 hHeld ?_
            refine UpTo.tk 2 hHeld ?_
            refine UpTo.tk 3 hHeld ?_
            refine UpTo.tk 4 hHeld ?_
            refine UpTo.tk 5 hHeld ?_
            refine UpTo.tk 6 hHeld ?_
            refine UpTo.tk 7 hHeld ?_
            refine UpTo.tk 8 hHeld ?_
            refine UpTo.tk 9 hHeld ?_
            refine UpTo.tk 10 hHeld ?_
            refine UpTo.tk 11 hHeld ?_
            refine UpTo.tk 12 hHeld ?_
            refine UpTo.tk 13 hHeld ?_
            refine UpTo.tk 14 hHeld ?_
            refine UpTo.tk 15 hHeld ?_
            refine UpTo.tk 16 hHeld ?_
            refine UpTo.tk 17 hHeld ?_
            refine UpTo.tk 18 hHeld ?_
            refine UpTo.tk 19 hHeld ?_
            refine UpTo.tk 20 hHeld ?_
            refine UpTo.tk 21 hHeld ?_
            refine UpTo.nx 22 (fun K hK => ?_)
            rw [if_pos (by rfl)]
            go_simp
            go_at_call 92
            refine (equalTexts_any _ ta xa tc xc ts ts' hl hl' (hT.kept KD) (hX.kept KD)).mono ?_
            rintro e w1 ⟨rfl, k1⟩
            refine hK.out _ _ (fun _ => HSO.out _ (KD.trans k1)) ?_
            clear hK K
            try simp only [Act.put, upA, upB, upC]
            refine UpTo.nx 23 (fun K hK => ?_)
            go_simp
            refine hK.out _ _ (fun _ => HSO.out _ (KD.trans k1)) ?_
            clear hK K
            try simp only [Act.put, upA, upB, upC]
            refine UpTo.nx 24 (fun K hK => ?_)
            go_simp
            refine hK.out _ _ (fun h => absurd rfl h) ?_
            clear hK K
            try simp only [Act.put, upA, upB, upC]
            refine UpTo.dn ?_
            go_wp2_with fail
            go_ret
            have h1 := of_decide_eq_true HE.out
            have h2 := of_decide_eq_true HP.out
            exact ⟨says_dec (by simp [E0.out, h1.1, h1.2.1, h1.2.2, h2.1, h2.2]), (K2.trans KD).trans k1⟩
end Go.Proofs.YtjhemildijapmaaGreatDoor
