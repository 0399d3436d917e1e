import Derived.Test.YtjhemildijapmaaGreatDoorKXValid0
import Derived.Test.YtjhemildijapmaaGreatDoorKWCheck5
import Derived.StringKeys
namespace Go.Proofs.YtjhemildijapmaaGreatDoor
open Go.RowKit
def PackedN (w : World) (xs : List Value) (l : List NodeD) : Prop :=
  xs.length = l.length ∧ ∀ i, i < l.length → ∃ tb cur fr, xs[i]? = some (.pointer (some ⟨tb, 0, none⟩)) ∧ w.heap[tb]? = some (Obj.cells cur 64 fr) ∧ w.cell? ⟨tb, 0, none⟩ = some (.string (l.getD i NodeD.zero).name)
theorem PackedN.kept {w w' : World} {xs : List Value} {l : List NodeD} (h : PackedN w xs l) (k : Kept w w') : PackedN w' xs l :=
  ⟨h.1, fun i hi => by
    obtain ⟨tb, cur, fr, h1, h2, h3⟩ := h.2 i hi
    exact ⟨tb, cur, fr, h1, by rw [k.block tb (heap_lt h2)]; exact h2, (k.cell (heap_lt h2)).trans h3⟩⟩
def CellsB (w : World) (a : Option Addr) (xs : List Value) : Prop := ∀ i, i < xs.length → ∃ b o, a = some ⟨b, o, none⟩ ∧ b < w.heap.size ∧ ∀ j u, xs[j]? = some u → w.cell? ⟨b, o + j, none⟩ = some u
theorem CellsB.kept {w w' : World} {a : Option Addr} {xs : List Value} (h : CellsB w a xs) (k : Kept w w') : CellsB w' a xs := by
  intro i hi
  obtain ⟨b, o, e, hb, hc⟩ := h i hi
  exact ⟨b, o, e, Nat.lt_of_lt_of_le hb k.size, fun j u hu => (k.cell hb).trans (hc j u hu)⟩
theorem cellsB_of_owned {w : World} {base n : Nat} {t : TypeId} {a : Option Addr} {cap : Nat} {xs : List Value} (h : w.ownsRow base t 1 (.slice a n cap) n xs) : CellsB w a xs := by
  have hl : xs.length = n := by have := h.1; omega
  rcases h.2 with ⟨e, h0⟩ | ⟨g, cap', cur, e, hb, hg, hnc, _, _, _⟩
  · exact fun i hi => by omega
  · simp only [Value.slice.injEq] at e
    obtain ⟨rfl, _, rfl⟩ := e
    refine fun i hi => ⟨g, 0, rfl, heap_lt hg, fun j u hu => ?_⟩
    have := h.cells (g := g) rfl _ _ hu
    rw [Addr.add_mid] at this
    exact this
theorem taskName_b (w : World) (tb : Nat) (n : ByteArray) (hn : w.cell? ⟨tb, 0, none⟩ = some (.string n)) :
    Calls Tryz.prog 88 #[.pointer (some ⟨tb, 0, none⟩)] w fun e w' => e = .returned (.string n) ∧ w' = w := by
  go_enter Tryz.func88, Tryz.ntmps88
  go_wp2
  go_ret
  exact ⟨rfl, rfl⟩
theorem findLitB_any (w : World) (g : Nat) (n : ByteArray) (tb : Nat) (key : ByteArray) (hg : g < w.heap.size) (ht : tb < w.heap.size) (hn : w.cell? ⟨tb, 0, none⟩ = some (.string n)) (hc : w.cell? ⟨g, 1, none⟩ = some (.func (.func 88) #[] #[])) :
    Calls Tryz.prog 156 #[.pointer (some ⟨tb, 0, none⟩), .string key, .pointer (some ⟨g, 0, none⟩)] w fun e w' => e = .returned (.int .i64 (cmpD n.toList key.toList)) ∧ Kept w w' := by
  go_enter Tryz.func156, Tryz.ntmps156
  go_wp2_with fail
  refine (taskName_b _ tb n hn).mono ?_
  rintro e w1 ⟨rfl, rfl⟩
  go_wp2_with fail
  refine (compare_any _ n key).mono ?_
  rintro e w2 ⟨rfl, rfl⟩
  go_wp2
  go_ret
  exact ⟨rfl, Kept.refl _⟩
set_option maxRecDepth 100000 in
set_option maxHeartbeats 1600000 in
theorem searchB_any (w : World) (g : Nat) (a : Option Addr) (cap : Nat) (l : List NodeD) (key : ByteArray) (hl : l.length ≤ 1048576) (hr : Rises l) (hg : g < w.heap.size) (hc : w.cell? ⟨g, 1, none⟩ = some (.func (.func 88) #[] #[])) (xs : List Value) (hP : PackedN w xs l) (hS : CellsB w a xs) :
    Calls Tryz.prog 155 #[.slice a l.length cap, .string key, .func (.func 156) #[] #[.pointer (some ⟨g, 0, none⟩)]] w
      fun e w' => Found l key.toList e ∧ Kept w w' := by
  have HRi := hide hr
  clear hr
  go_enter Tryz.func155, Tryz.ntmps155
  go_wp2
  go_loopw [9, 10] (fun x y wr => ∃ i j : Nat, x = .int .i64 i ∧ y = .int .i64 j ∧ i ≤ j ∧ j ≤ l.length ∧ (∀ t, t < i → Op.bytesLess (nameAt l t) key.toList = true) ∧ (∀ t, j ≤ t → t < l.length → Op.bytesLess (nameAt l t) key.toList = false) ∧ Kept w wr) (fun x y _ => (intOf y).toNat - (intOf x).toNat)
  case atStart => exact ⟨0, l.length, rfl, rfl, Nat.zero_le _, Nat.le_refl _, fun t ht => absurd ht (Nat.not_lt_zero _), fun t h1 h2 => by omega, Kept.refl _⟩
  case round =>
    obtain ⟨i, j, rfl, rfl, hij, hjn, hbe, hbh, hw⟩ := hrel
    have HB := hide (And.intro hbe hbh)
    clear hbe hbh
    by_cases hlt : (i : Int) < j
    · obtain ⟨h, hh⟩ : ∃ h : Nat, h = (i + j) / 2 := ⟨_, rfl⟩
      have hhlt : h < l.length := by omega
      have hhi : i ≤ h := by omega
      have hhj : h < j := by omega
      obtain ⟨b, o, rfl, hb, hcs⟩ := hS.kept hw h (by rw [hP.1]; exact hhlt)
      obtain ⟨tb, cur, fr, hx, htb, hrg⟩ := (hP.kept hw).2 h hhlt
      obtain ⟨d, hd⟩ : ∃ d, d = l.getD h NodeD.zero := ⟨_, rfl⟩
      rw [← hd] at hrg
      have HD := hide hd
      have c0 := hcs _ _ hx
      have c1 : wr.cell? ⟨tb, 0, none⟩ = some (.string d.name) := hrg
      have htl := heap_lt htb
      clear hd hcs hrg hx htb
      have hmid : ((i : Int) + (j : Int)) / 2 = (h : Int) := by omega
      have HH := hide hh
      clear hh
      have hg' : g < wr.heap.size := Nat.lt_of_lt_of_le hg hw.size
      have hc' : wr.cell? ⟨g, 1, none⟩ = some (.func (.func 88) #[] #[]) := by rw [hw.cell hg]; exact hc
      go_wp2_with fail
      refine (findLitB_any _ g d.name tb key hg' htl c1 hc').mono ?_
      rintro e w1 ⟨rfl, k1⟩
      have hnm : nameAt l h = d.name.toList := by unfold nameAt; rw [← HD.out]
      have HC : Hid (cmpD d.name.toList key.toList < 0 ↔ Op.bytesLess (nameAt l h) key.toList = true) := by rw [hnm]; exact cmpD_neg
      clear c0 c1 hnm
      generalize cmpD d.name.toList key.toList = r at *
      have hw1 := hw.trans k1
      clear hw k1
      by_cases hneg : r < 0
      · go_wp2
        go_roundw
        case rel =>
          obtain ⟨hbe, hbh⟩ := HB.out
          refine ⟨h + 1, j, by go_num, rfl, by omega, hjn, fun t ht => ?_, hbh, hw1⟩
          have hle := HC.out.1 hneg
          by_cases e : t = h
          · subst e; exact hle
          · exact less_trans _ _ _ (HRi.out t h (by omega) hhlt) hle
        case measure => simp [intOf]; omega
      · go_wp2
        go_roundw
        case rel =>
          obtain ⟨hbe, hbh⟩ := HB.out
          refine ⟨i, h, rfl, by go_num, hhi, by omega, hbe, fun t h1 h2 => ?_, hw1⟩
          have hle : Op.bytesLess (nameAt l h) key.toList = false := by
            cases hq : Op.bytesLess (nameAt l h) key.toList
            · rfl
            · have := HC.out.2 hq
              omega
          by_cases e : t = h
          · subst e; exact hle
          · cases hq : Op.bytesLess (nameAt l t) key.toList
            · rfl
            · rw [less_trans _ _ _ (HRi.out h t (by omega) h2) hq] at hle
              cases hle
        case measure => simp [intOf]; omega
    · have hij' : i = j := by omega
      subst hij'
      have HPl : Hid (Place l key.toList i) := ⟨hjn, HB.out.1, HB.out.2⟩
      clear HB
      by_cases hin : i < l.length
      · obtain ⟨b, o, rfl, hb, hcs⟩ := hS.kept hw i (by rw [hP.1]; exact hin)
        obtain ⟨tb, cur, fr, hx, htb, hrg⟩ := (hP.kept hw).2 i hin
        obtain ⟨d, hd⟩ : ∃ d, d = l.getD i NodeD.zero := ⟨_, rfl⟩
        rw [← hd] at hrg
        have HD := hide hd
        have c0 := hcs _ _ hx
        have c1 : wr.cell? ⟨tb, 0, none⟩ = some (.string d.name) := hrg
        have htl := heap_lt htb
        clear hd hcs hrg hx htb
        have hg' : g < wr.heap.size := Nat.lt_of_lt_of_le hg hw.size
        have hc' : wr.cell? ⟨g, 1, none⟩ = some (.func (.func 88) #[] #[]) := by rw [hw.cell hg]; exact hc
        have hin' : (i : Int) < l.length := by omega
        go_wp2_with fail
        refine (findLitB_any _ g d.name tb key hg' htl c1 hc').mono ?_
        rintro e w1 ⟨rfl, k1⟩
        have hnm : nameAt l i = d.name.toList := by unfold nameAt; rw [← HD.out]
        have HC : Hid (cmpD d.name.toList key.toList = 0 ↔ nameAt l i = key.toList) := by rw [hnm]; exact cmpD_zero
        clear c0 c1 hnm
        generalize cmpD d.name.toList key.toList = r at *
        have hw1 := hw.trans k1
        clear hw k1
        go_wp2
        go_ret2
        refine ⟨Found.mk i _ rfl HPl.out ?_, hw1⟩
        rw [← HC.out]
        simp [hin]
      · have hin' : ¬ (i : Int) < l.length := by omega
        go_wp2
        go_ret2
        exact ⟨Found.mk i false rfl HPl.out (by simp; intro h; exact absurd h hin), hw⟩
set_option maxRecDepth 100000 in
set_option maxHeartbeats 800000 in
theorem findB_any (w : World) (a : Option Addr) (cap : Nat) (l : List NodeD) (key : ByteArray) (hl : l.length ≤ 1048576) (hr : Rises l) (xs : List Value) (hP : PackedN w xs l) (hS : CellsB w a xs) :
    Calls Tryz.prog 140 #[.agg #[.slice a l.length cap, .func (.func 88) #[] #[]], .string key] w
      fun e w' => Found l key.toList e ∧ Kept w w' := by
  have k0 : Kept w (w.alloc (.cells #[.slice a l.length cap, .func (.func 88) #[] #[]] 108)) := (Kept.refl _).alloc _
  go_enter Tryz.func140, Tryz.ntmps140
  go_wp2_with fail
  refine (searchB_any _ w.heap.size a cap l key hl hr (by simp) (by simp) xs (hP.kept k0) (hS.kept k0)).mono ?_
  rintro e w1 ⟨hfo, k1⟩
  obtain ⟨p, f, rfl, hp, hf⟩ := hfo
  have HP := hide hp
  have HF := hide hf
  clear hp hf
  go_wp2
  go_ret2
  exact ⟨Found.mk p f rfl HP.out HF.out, k0.trans k1⟩
def namesN (ts : List TaskM) : List NodeD := ts.map fun t => ⟨t.r.name, 0, []⟩
theorem namesN_len (ts : List TaskM) : (namesN ts).length = ts.length := by simp [namesN]
theorem namesN_at {ts : List TaskM} {i : Nat} (h : i < ts.length) : ((namesN ts).getD i NodeD.zero).name = ts[i].r.name := by simp [namesN, List.getD, h]
theorem rises_asc {ts : List TaskM} (h : AscX (runsOf ts)) : Rises (namesN ts) := fun i j hij hj => by
  rw [namesN_len] at hj
  unfold nameAt
  rw [namesN_at (by omega), namesN_at hj]
  have := List.pairwise_iff_getElem.1 h i j (by simp [runsOf]; omega) (by simpa [runsOf] using hj) hij
  unfold lessX at this
  simpa [runsOf] using this
section
variable {G : Ghost} {webl : List NodeD} {wz w w' : World} {bb : Nat} {a : Option Addr} {cap : Nat} {rd : Option Addr} {rn rc : Nat} {mb mx : Nat} {ts : List TaskM} {d : Option Addr} {dc : Nat} {f : ByteArray → Value} {ws : ByteArray → List Nat}
theorem BM.packed (h : BM G webl wz w bb a cap rd rn rc mb mx ts d dc f ws) : PackedN w (ts.map TaskM.ptr) (namesN ts) :=
  ⟨by simp [namesN], fun i hi => by
    rw [namesN_len] at hi
    have ht := h.task ts[i] (List.getElem_mem hi)
    obtain ⟨cur, hb, _⟩ := ht.row
    exact ⟨ts[i].tb, cur, _, by simp [hi, TaskM.ptr], hb, by rw [namesN_at hi]; exact ht.rng 0 _ rfl⟩⟩
def TaskSaid (ts : List TaskM) (n : ByteArray) (e : Ending) : Prop := (∃ (i : Nat) (hi : i < ts.length), ts[i].r.name = n ∧ e = .returned ts[i].ptr) ∨ ((∀ t ∈ ts, t.r.name ≠ n) ∧ e = .returned (.pointer none))
set_option maxRecDepth 100000 in
set_option maxHeartbeats 1600000 in
theorem benchTask_any (hB : BM G webl wz w bb a cap rd rn rc mb mx ts d dc f ws) (n : ByteArray) (hl : ts.length ≤ 1048576) :
    Calls Tryz.prog 119 #[.pointer (some ⟨bb, 0, none⟩), .string n] w fun e w' => TaskSaid ts n e ∧ Kept w w' := by
  have c3 := hB.c3
  have c4 := hB.c4
  have bz := hB.row.lt
  have hlen := namesN_len ts
  have HB := hide hB
  clear hB
  go_enter Tryz.func119, Tryz.ntmps119
  go_wp2_with fail
  have hf := findB_any w d dc (namesN ts) n (by omega) (rises_asc HB.out.asc) (ts.map TaskM.ptr) HB.out.packed (cellsB_of_owned HB.out.items)
  rw [hlen] at hf
  refine hf.mono ?_
  rintro e w1 ⟨⟨p, fd, rfl, hp, hfd⟩, k1⟩
  have HP := hide hp
  have HF := hide hfd
  have HL := hide hlen
  clear hp hfd hf hlen c3 c4
  have hB1 := HB.out.kept k1
  have c3 := hB1.c3
  have bz1 := hB1.row.lt
  cases fd
  · go_wp2_with fail
    go_ret
    refine ⟨.inr ⟨fun t ht e => ?_, rfl⟩, k1⟩
    obtain ⟨i, hi, rfl⟩ := List.getElem_of_mem ht
    have hpl := HP.out
    have hno : ¬ (p < (namesN ts).length ∧ nameAt (namesN ts) p = n.toList) := fun h => by have := HF.out.2 h; cases this
    have hna : nameAt (namesN ts) i = n.toList := by unfold nameAt; rw [namesN_at hi, e]
    have hip : i < (namesN ts).length := by rw [namesN_len]; exact hi
    have e2 := Place.only (rises_asc HB.out.asc) hpl hip hna
    rw [e2] at hip hna
    exact hno ⟨hip, hna⟩
  · obtain ⟨hp1, hp2⟩ := HF.out.1 rfl
    rw [namesN_len] at hp1
    have hnm : ts[p].r.name = n := by unfold nameAt at hp2; rw [namesN_at hp1] at hp2; exact toList_inj.1 hp2
    obtain ⟨b, o, rfl, hb, hcs⟩ := cellsB_of_owned hB1.items p (by simpa using hp1)
    have c0 : w1.cell? ⟨b, o + p, none⟩ = some ts[p].ptr := hcs p _ (by simp [hp1])
    have hpi : (p : Int) < (ts.length : Int) := by omega
    have HNm := hide hnm
    clear hnm hcs hp2 hB1
    go_wp2_with fail
    go_ret
    exact ⟨.inl ⟨p, hp1, HNm.out, rfl⟩, k1⟩
theorem absent_any (w : World) (n : ByteArray) (hn : n.size ≤ 1000) :
    Calls Tryz.prog 124 #[.string n] w fun e w' => e = .returned (.agg #[.bool true, .string (noOf n)]) ∧ Kept w w' := by
  go_enter Tryz.func124, Tryz.ntmps124
  have hs : ¬ 9223372036854775807 < 3 + n.size := by omega
  go_wp2
  exact bodyPost_ret_cell [.bool true, .string (noOf n)] _ Tryz.results124 rfl (range_new w #[.bool true, .string (noOf n)] 151) Tryz.underlying151 rfl Tryz.xSizeAns rfl ⟨rfl, (Kept.refl _).alloc _⟩
def AnsSaidR (webl : List NodeD) (l : List RunX) (n : ByteArray) (e : Ending) : Prop :=
  ∃ (f : Bool) (t : ByteArray) (ok : Bool), e = .returned (.tuple #[.agg #[.bool f, .string t], .bool ok]) ∧ ansOf (actsOf webl) (envOf l) n = (if ok = true then some ⟨f, t⟩ else none) ∧ (ok = false → ∃ r, envOf l n = some r ∧ f = r.fail ∧ t = r.text)
set_option maxRecDepth 100000 in
set_option maxHeartbeats 3200000 in
theorem benchAnswer_anyR (hB : BM G webl wz w bb a cap rd rn rc mb mx ts d dc f ws) (n : ByteArray) (hl : ts.length ≤ 1048576) (hsz : n.size ≤ 1000) (hn : (∃ t ∈ ts, t.r.name = n) ∨ actsOf webl n = none) :
    Calls Tryz.prog 93 #[.pointer (some ⟨bb, 0, none⟩), .string n] w fun e w' => AnsSaidR webl (runsOf ts) n e ∧ Kept w w' := by
  have k0 : Kept w (w.alloc (.cells #[.bool false, .string ⟨#[]⟩] 151)) := (Kept.refl _).alloc _
  go_enter Tryz.func93, Tryz.ntmps93
  go_wp2_with fail
  refine (benchTask_any (hB.kept k0) n hl).mono ?_
  rintro e w1 ⟨⟨i, hi, hin, rfl⟩ | ⟨hno, rfl⟩, k1⟩
  · obtain ⟨t, ht⟩ : ∃ t, t = ts[i] := ⟨_, rfl⟩
    have hT := hB.task ts[i] (List.getElem_mem hi)
    rw [← ht] at hT hin
    have hcs := hT.rng
    have q1 : w.cell? ⟨t.tb, 1, none⟩ = some (.bool t.r.over) := hcs 1 _ rfl
    have q2 : w.cell? ⟨t.tb, 2, none⟩ = some (.bool t.r.fail) := hcs 2 _ rfl
    have q3 : w.cell? ⟨t.tb, 3, none⟩ = some (.string t.r.text) := hcs 3 _ rfl
    have tz := hT.row.lt
    have HSO : Hid (∀ w', Kept w w' → w'.cell? ⟨t.tb, 1, none⟩ = some (.bool t.r.over) ∧ w'.cell? ⟨t.tb, 2, none⟩ = some (.bool t.r.fail) ∧ w'.cell? ⟨t.tb, 3, none⟩ = some (.string t.r.text)) := fun w' K => ⟨(K.cell tz).trans q1, (K.cell tz).trans q2, (K.cell tz).trans q3⟩
    have HRw1 := hide ((RowT.made w #[.bool false, .string ⟨#[]⟩] 151).kept k1)
    have KW := (k0.trans k1)
    obtain ⟨hBp1, hBp2, hBp3⟩ := HSO.out _ KW
    have HIn := hide hin
    have HT := hide ht
    have he2 : ts[i].ptr = .pointer (some ⟨t.tb, 0, none⟩) := by rw [← ht]; rfl
    rw [he2]
    clear ht hin q1 q2 q3 hcs he2
    go_upto_region 4 with fail
    refine UpTo.rk 17 HSO.out (KW.drew) (fun hHeld => ?_)
    have KD : Kept w w1.drew := KW.drew
    have HRd := hide (HRw1.out.kept ((Kept.refl w1).drew))
    generalize hwd : w1.drew = wd at hHeld KD HRd ⊢
    clear hwd hBp1 hBp2 hBp3
    refine UpTo.tk 0 hHeld ?_
    refine UpTo.tk 1 hHeld ?_
    refine UpTo.tk 2 hHeld ?_
    refine UpTo.tk 3 hHeld ?_
    refine UpTo.tk 4 hHeld ?_
    refine UpTo.tk 5 hHeld ?_
    refine UpTo.tk 6 hHeld ?_
    refine UpTo.tk 7 hHeld ?_
    refine UpTo.tk 8 hHeld ?_
    refine UpTo.tk 9 hHeld ?_
    refine UpTo.tk 10 hHeld ?_
    refine UpTo.tk 11 hHeld ?_
    refine UpTo.tk 12 hHeld ?_
    refine UpTo.tk 13 hHeld ?_
    refine UpTo.tk 14 hHeld ?_
    refine UpTo.tk 15 hHeld ?_
    obtain ⟨⟨_, x0⟩, f0⟩ := HRd.out.row.at (i := 0) (by decide)
    obtain ⟨⟨_, x1⟩, f1⟩ := HRd.out.row.at (i := 1) (by decide)
    have xz := HRd.out.lt
    refine UpTo.nx 16 (fun K hK => ?_)
    go_simp
    refine hK.out _ _ ?_ ?_
    · exact fun _ => HSO.out _ (kept_sets (g := w.heap.size) (Nat.le_refl _) [.bool t.r.fail, .string t.r.text] 0 KD)
    clear hK K
    try simp only [Act.put, upA, upB, upC]
    refine UpTo.nx 17 (fun K hK => ?_)
    go_simp
    refine hK.out _ _ (fun h => absurd rfl h) ?_
    clear hK K
    try simp only [Act.put, upA, upB, upC]
    refine UpTo.dn ?_
    go_wp2_with fail
    have hR := World.rangeAt_setCells_same wd w.heap.size 0 [.bool t.r.fail, .string t.r.text] (HRd.out.row.there (o := 0) (m := 2) (Nat.le_refl _))
    refine bodyPost_ret_c2 [.bool t.r.fail, .string t.r.text] _ (.bool t.r.over) Tryz.results93 rfl hR Tryz.underlying151 rfl Tryz.xSizeAns rfl rfl ?_
    refine ⟨⟨t.r.fail, t.r.text, t.r.over, rfl, ?_⟩, kept_sets (g := w.heap.size) (Nat.le_refl _) [.bool t.r.fail, .string t.r.text] 0 KD⟩
    have hA := (hB.act ts[i] (List.getElem_mem hi)).1
    have hE := asc_env hB.asc (List.mem_map_of_mem (List.getElem_mem hi) : ts[i].r ∈ runsOf ts)
    rw [← HT.out, HIn.out] at hA hE
    refine ⟨by unfold ansOf; rw [hA, hE], fun _ => ⟨t.r, hE, rfl, rfl⟩⟩
  · have HRw1 := hide ((RowT.made w #[.bool false, .string ⟨#[]⟩] 151).kept k1)
    have KW := (k0.trans k1)
    have HNo := hide hno
    clear hno
    go_wp2_with fail
    refine (absent_any w1 n hsz).mono ?_
    rintro e w2 ⟨rfl, k2⟩
    have HR2 := hide (HRw1.out.kept k2)
    obtain ⟨⟨_, x0⟩, f0⟩ := HR2.out.row.at (i := 0) (by decide)
    obtain ⟨⟨_, x1⟩, f1⟩ := HR2.out.row.at (i := 1) (by decide)
    have xz := HR2.out.lt
    go_wp2_with fail
    have hR := World.rangeAt_setCells_same w2 w.heap.size 0 [.bool true, .string (noOf n)] (HR2.out.row.there (o := 0) (m := 2) (Nat.le_refl _))
    refine bodyPost_ret_c2 [.bool true, .string (noOf n)] _ (.bool true) Tryz.results93 rfl hR Tryz.underlying151 rfl Tryz.xSizeAns rfl rfl ?_
    refine ⟨⟨true, noOf n, true, rfl, ?_⟩, kept_sets (g := w.heap.size) (Nat.le_refl _) [.bool true, .string (noOf n)] 0 (KW.trans k2)⟩
    rcases hn with ⟨t, ht, e⟩ | hn
    · exact absurd e (HNo.out t ht)
    · exact ⟨by unfold ansOf; rw [hn]; rfl, fun h => by cases h⟩
theorem benchAnswer_any (hB : BM G webl wz w bb a cap rd rn rc mb mx ts d dc f ws) (n : ByteArray) (hl : ts.length ≤ 1048576) (hsz : n.size ≤ 1000) (hn : (∃ t ∈ ts, t.r.name = n) ∨ actsOf webl n = none) :
    Calls Tryz.prog 93 #[.pointer (some ⟨bb, 0, none⟩), .string n] w fun e w' => AnsSaid webl (runsOf ts) n e ∧ Kept w w' := by
  refine (benchAnswer_anyR hB n hl hsz hn).mono ?_
  rintro e w' ⟨⟨f, t, ok, h1, h2, _⟩, k⟩
  exact ⟨⟨f, t, ok, h1, h2⟩, k⟩
end
end Go.Proofs.YtjhemildijapmaaGreatDoor
namespace Go.Proofs.YtjhemildijapmaaGreatDoor
open Go.RowKit
section
variable {G : Ghost} {webl : List NodeD} {wz w w' : World} {bb : Nat} {a : Option Addr} {cap : Nat} {rd : Option Addr} {rn rc : Nat} {mb mx : Nat} {ts : List TaskM} {d : Option Addr} {dc : Nat} {f : ByteArray → Value} {ws : ByteArray → List Nat}
theorem BM.store (h : BM G webl wz w bb a cap rd rn rc mb mx ts d dc f ws) {i : Nat} {t t' : TaskM} (hi : ts[i]? = some t) {o : Nat} {v : Value} (ho : o < 12) (e : t'.cells = t.cells.set o v) (e1 : t'.tb = t.tb) (e2 : t'.r.name = t.r.name) (e3 : t'.cost = t.cost) (e4 : t'.steps = t.steps) (e5 : t'.sa = t.sa) (e6 : t'.tv = t.tv) (e7 : t'.qv = t.qv) (e8 : t'.qs = t.qs) (e9 : t'.r.texts = t.r.texts) :
    BM G webl wz (w.setCell ⟨t.tb, o, none⟩ v) bb a cap rd rn rc mb mx (ts.set i t') d dc f ws := by
  obtain ⟨hl, rfl⟩ := List.getElem?_eq_some_iff.1 hi
  have hT := h.task _ (List.getElem_mem hl)
  have k : But (fun b => b = ts[i].tb) w (w.setCell ⟨ts[i].tb, o, none⟩ v) := But.set (S := fun b => b = ts[i].tb) (But.of_kept (Kept.refl w)) (p := ⟨ts[i].tb, o, none⟩) rfl v
  have ne : ∀ x ∈ ts[i].own, x ≠ ts[i].tb := fun x hx => type_ne (hT.own_type hx).1 hT.row.type (by decide)
  have hown : t'.own = ts[i].own := by unfold TaskM.own; rw [e6, e7]
  refine h.turn hl k (fun b hb => .inl hb) ⟨by rw [e1]; exact hT.row.set v, by rw [e1, e]; exact range_set hT.rng hT.row.row ho v, ?_, ?_, by rw [e1]; exact hT.low⟩ e1 e2 e3 e4 e5 (fun x hx => .inl (by rw [← hown]; exact hx)) (by rw [hown]; exact h.sep2 _ (List.getElem_mem hl)) (by rw [e8]; exact h.qb _ (List.getElem_mem hl))
  · rw [e6, e9]
    exact k.owns hT.txt (fun b hb => ne b (List.mem_append.2 (.inl (Option.mem_toList.2 hb))))
  · rw [e7, e8]
    exact k.owns hT.ask (fun b hb => ne b (List.mem_append.2 (.inr (Option.mem_toList.2 hb))))
theorem BM.at (h : BM G webl wz w bb a cap rd rn rc mb mx ts d dc f ws) {i : Nat} {t : TaskM} (hi : ts[i]? = some t) : TaskAt wz.heap.size w t := h.task t (List.mem_of_getElem? hi)
theorem Tryz.zeroW (w : World) : (zeroValue 105).run Tryz.prog w = .ok (.slice none 0 0) w := by kernel_rfl
theorem Tryz.keyed : Maps.Keyed Tryz.prog 9 := Maps.string_keyed Tryz.underlying9
theorem BM.look (h : BM G webl wz w bb a cap rd rn rc mb mx ts d dc f ws) {s : ByteArray} (hs : s.size ≤ maxLen) : (Instr.lookup 112 (.map (some mb)) (.string s) false).run Tryz.prog w = .ok (f s) w := by
  obtain ⟨N, D, _, hM, hf⟩ := h.map
  obtain ⟨v, ps, hrun, hv⟩ := hM.lookup Tryz.keyed Tryz.underlying112 (Tryz.zeroW w) (zd := .held (.slice none 0 0)) (zp := []) rfl (WideMaps.keyOf_string_mk Tryz.underlying9 hs)
  have e := hf s hs
  unfold asIs at hv
  simp only [Option.some.injEq, Prod.mk.injEq] at hv
  have e2 : (DataW.held v : DataW Value) = .held (f s) := hv.1.trans e
  cases e2
  exact hrun
theorem keyLit_ne {s s' : ByteArray} (h : s ≠ s') : keyLit s ≠ keyLit s' := fun e => h (by
  unfold keyLit at e
  simp only [Lit.string.injEq] at e
  exact ba_ext e)
theorem BM.del (h : BM G webl wz w bb a cap rd rn rc mb mx ts d dc f ws) {s : ByteArray} (hs : s.size ≤ maxLen) (ty : TypeId) : ∃ w', (Builtin.delete_ #[112, 9] ty #[.map (some mb), .string s]).run Tryz.prog w = .ok (.tuple #[]) w' ∧ But (fun b => b = mb) w w' ∧ BM G webl wz w' bb a cap rd rn rc mb mx ts d dc (fun n => if n = s then .slice none 0 0 else f n) (fun n => if n = s then [] else ws n) := by
  obtain ⟨N, D, hN, hM, hf⟩ := h.map
  obtain ⟨w', hrun, hM', hg⟩ := hM.drop Tryz.keyed Tryz.underlying112 (WideMaps.keyOf_string_mk Tryz.underlying9 hs) ty
  have k : But (fun b => b = mb) w w' := But.of_grown hg.grown (fun b e => (Option.some.inj e).symm)
  refine ⟨w', hrun, k, ?_⟩
  have ne : ∀ {b : Nat} {t : TypeId}, TypeAt w b t → ¬ b = mb := fun hu e => map_ne hM hu e
  have hb := h.row.lt
  have nb := ne h.row.type
  have hfen : Fen G w' bb mb ts (fun n => if n = s then .slice none 0 0 else f n) := by
    have h0 := h.oth.but k (fun b e => by rw [e]; exact h.oth.nm)
    refine ⟨h0.size, h0.lt, h0.same, h0.nb, h0.nm, h0.nt, fun n x hx => ?_, h0.has⟩
    by_cases e : n = s
    · simp only [if_pos e] at hx
      cases hx
    · simp only [if_neg e] at hx
      exact h.oth.nf n x hx
  refine ⟨k.kept h.kw (fun b e => by rw [e]; exact h.mlow), k.row h.row nb, (k.cell hb nb).trans h.c0, (k.cell hb nb).trans h.c1, (k.cell hb nb).trans h.c2, (k.cell hb nb).trans h.c3, (k.cell hb nb).trans h.c4, (k.cell hb nb).trans h.c5, h.low, k.owns h.items (fun b e => ne (owns_type h.items e)), fun t ht => (h.task t ht).but k (ne (h.task t ht).row.type) (fun x hx => ne ((h.task t ht).own_type hx).1), h.act, h.asc, h.tbs, h.sep, h.sep2, ⟨N, _, hN, hM', fun n hn => ?_⟩, h.mlow, fun n => ?_, fun n n' hnn x hx => ?_, fun n x hx => ?_, h.qb, hfen⟩
  · by_cases e : n = s
    · rw [if_pos e, e]
      exact Maps.atKey_del_same _
    · rw [if_neg e, ← hf n hn]
      exact Maps.atKey_del_other (keyLit_ne e) _
  · by_cases e : n = s
    · simp only [if_pos e]
      exact World.ownsRow_nil _ _ _ _
    · simp only [if_neg e]
      exact k.owns (h.wrow n) (fun b e => ne (owns_type (h.wrow n) e))
  · by_cases e : n = s
    · rw [if_pos e] at hx; cases hx
    · rw [if_neg e] at hx
      by_cases e' : n' = s
      · rw [if_pos e']; intro h; cases h
      · rw [if_neg e']; exact h.wsep n n' hnn x hx
  · by_cases e : n = s
    · rw [if_pos e] at hx; cases hx
    · rw [if_neg e] at hx; exact h.isep n x hx
end
def decT (ts : List TaskM) (l : List Nat) : List TaskM := ts.map fun t => if t.tb ∈ l then { t with op := t.op - 1 } else t
theorem decT_get {ts : List TaskM} {l : List Nat} {i : Nat} (h : i < (decT ts l).length) (hi : i < ts.length) : (decT ts l)[i] = if ts[i].tb ∈ l then { ts[i] with op := ts[i].op - 1 } else ts[i] := by simp [decT]
theorem decT_nil (ts : List TaskM) : decT ts [] = ts := by simp [decT]
theorem decT_snoc {ts : List TaskM} {l : List Nat} {b j : Nat} {t : TaskM} (hn : (ts.map (·.tb)).Nodup) (hb : b ∉ l) (hj : ts[j]? = some t) (ht : t.tb = b) : decT ts (l ++ [b]) = (decT ts l).set j { t with op := t.op - 1 } ∧ (decT ts l)[j]? = some t := by
  obtain ⟨hl, rfl⟩ := List.getElem?_eq_some_iff.1 hj
  have hg : (decT ts l)[j]? = some ts[j] := by
    unfold decT
    rw [List.getElem?_map, List.getElem?_eq_getElem hl]
    simp only [Option.map_some, Option.some.injEq]
    rw [if_neg (by rw [ht]; exact hb)]
  refine ⟨?_, hg⟩
  apply List.ext_getElem
  · simp [decT]
  · intro i h1 h2
    have hi : i < ts.length := by simpa [decT] using h1
    rw [List.getElem_set, decT_get h1 hi]
    by_cases e : j = i
    · subst e
      rw [if_pos rfl, if_pos (by rw [ht]; simp)]
    · rw [if_neg e, decT_get (by simpa [decT] using hi) hi]
      have hne : ts[i].tb ≠ b := by
        rw [← ht]
        have hnd := List.pairwise_iff_getElem.1 hn
        rcases Nat.lt_or_gt_of_ne e with h | h
        · have := hnd j i (by simpa using hl) (by simpa using hi) h
          simp at this
          exact fun e => this e.symm
        · have := hnd i j (by simpa using hi) (by simpa using hl) h
          simpa using this
      by_cases h3 : ts[i].tb ∈ l
      · rw [if_pos h3, if_pos (List.mem_append.2 (.inl h3))]
      · rw [if_neg h3, if_neg (by rw [List.mem_append, List.mem_singleton]; rintro (h | h); exact h3 h; exact hne h)]
end Go.Proofs.YtjhemildijapmaaGreatDoor
namespace Go.Proofs.YtjhemildijapmaaGreatDoor
open Go.RowKit
theorem decT_at {ts : List TaskM} {l : List Nat} {i : Nat} {t : TaskM} (h : ts[i]? = some t) : ∃ u, (decT ts l)[i]? = some u ∧ u.tb = t.tb ∧ u.r = t.r := by
  refine ⟨if t.tb ∈ l then { t with op := t.op - 1 } else t, by unfold decT; rw [List.getElem?_map, h]; rfl, ?_, ?_⟩
  · by_cases h : t.tb ∈ l
    · rw [if_pos h]
    · rw [if_neg h]
  · by_cases h : t.tb ∈ l
    · rw [if_pos h]
    · rw [if_neg h]
def TaskM.ended (t : TaskM) (fl : Bool) (tx : ByteArray) : TaskM := { t with r := { t.r with over := true, fail := fl, text := tx } }
section
variable {G : Ghost} {webl : List NodeD} {wz w w' : World} {bb : Nat} {a : Option Addr} {cap : Nat} {rd : Option Addr} {rn rc : Nat} {mb mx : Nat} {ts : List TaskM} {d : Option Addr} {dc : Nat} {f : ByteArray → Value} {ws : ByteArray → List Nat}
theorem BM.ended (h : BM G webl wz w bb a cap rd rn rc mb mx ts d dc f ws) {i : Nat} {t : TaskM} (hi : ts[i]? = some t) (fl : Bool) (tx : ByteArray) : BM G webl wz (((w.setCell ⟨t.tb, 1, none⟩ (.bool true)).setCell ⟨t.tb, 2, none⟩ (.bool fl)).setCell ⟨t.tb, 3, none⟩ (.string tx)) bb a cap rd rn rc mb mx (ts.set i (t.ended fl tx)) d dc f ws := by
  have hl : i < ts.length := (List.getElem?_eq_some_iff.1 hi).1
  have h1 := h.store (t' := { t with r := { t.r with over := true } }) hi (o := 1) (v := .bool true) (by omega) rfl rfl rfl rfl rfl rfl rfl rfl rfl rfl
  have h2 := h1.store (t' := { t with r := { t.r with over := true, fail := fl } }) (List.getElem?_set_self hl) (o := 2) (v := .bool fl) (by omega) rfl rfl rfl rfl rfl rfl rfl rfl rfl rfl
  rw [List.set_set] at h2
  have h3 := h2.store (t' := t.ended fl tx) (List.getElem?_set_self hl) (o := 3) (v := .string tx) (by omega) rfl rfl rfl rfl rfl rfl rfl rfl rfl rfl
  rw [List.set_set] at h3
  exact h3
set_option maxRecDepth 100000 in
set_option maxHeartbeats 3200000 in
theorem benchEnd_any (hB : BM G webl wz w bb a cap rd rn rc mb mx ts d dc f ws) {i : Nat} {t : TaskM} (hi : ts[i]? = some t) (fl : Bool) (tx : ByteArray) (hsz : t.r.name.size ≤ 1000) (hwl : (ws t.r.name).length ≤ 1000) (hw : ∀ b ∈ ws t.r.name, ∃ (j : Nat) (u : TaskM), (ts.set i (t.ended fl tx))[j]? = some u ∧ u.tb = b ∧ 1 ≤ u.op ∧ u.op ≤ 1000) (hwn : (ws t.r.name).Nodup) :
    Calls Tryz.prog 58 #[.pointer (some ⟨bb, 0, none⟩), .pointer (some ⟨t.tb, 0, none⟩), .bool fl, .string tx] w fun e w' => e = .returned (.tuple #[]) ∧ BM G webl wz w' bb a cap rd rn rc mb mx (decT (ts.set i (t.ended fl tx)) (ws t.r.name)) d dc (fun n => if n = t.r.name then .slice none 0 0 else f n) (fun n => if n = t.r.name then [] else ws n) := by
  obtain ⟨m, hm⟩ : ∃ m, m = (ws t.r.name).length := ⟨_, rfl⟩
  have hT := hB.at hi
  obtain ⟨⟨_, x1⟩, f1⟩ := hT.row.row.at (i := 1) (by omega)
  obtain ⟨⟨_, x2⟩, f2⟩ := hT.row.row.at (i := 2) (by omega)
  obtain ⟨⟨_, x3⟩, f3⟩ := hT.row.row.at (i := 3) (by omega)
  have tz := hT.row.lt
  obtain ⟨W1, hW1⟩ : ∃ W1, W1 = ((w.setCell ⟨t.tb, 1, none⟩ (.bool true)).setCell ⟨t.tb, 2, none⟩ (.bool fl)).setCell ⟨t.tb, 3, none⟩ (.string tx) := ⟨_, rfl⟩
  have hB1 : BM G webl wz W1 bb a cap rd rn rc mb mx (ts.set i (t.ended fl tx)) d dc f ws := by
    rw [hW1]
    exact hB.ended hi fl tx
  obtain ⟨va, vc, hf⟩ := own_slice (hB1.wrow t.r.name)
  rw [← hm] at hf
  have hil : i < ts.length := (List.getElem?_eq_some_iff.1 hi).1
  have hi1 : (ts.set i (t.ended fl tx))[i]? = some (t.ended fl tx) := by rw [List.getElem?_set_self hil]
  obtain ⟨T1, hT1⟩ : ∃ T1, T1 = ts.set i (t.ended fl tx) := ⟨_, rfl⟩
  rw [← hT1] at hB1 hi1 hw ⊢
  have HT1 := hide hT1
  have HB1 := hide hB1
  have HI1 := hide hi1
  have Hf := hide hf
  have Hm := hide hm
  have HW := hide hw
  have HN := hide hwn
  have hml : m ≤ 1000 := by omega
  have HSO : Hid (∀ w', Kept W1 w' → w'.cell? ⟨bb, 5, none⟩ = some (.map (some mb)) ∧ w'.cell? ⟨t.tb, 0, none⟩ = some (.string t.r.name) ∧ (Instr.lookup 112 (.map (some mb)) (.string t.r.name) false).run Tryz.prog w' = .ok (.slice va m vc) w') := fun w' K => ⟨(HB1.out.kept K).c5, ((HB1.out.kept K).at HI1.out).rng 0 _ rfl, by rw [← Hf.out]; exact (HB1.out.kept K).look (by unfold maxLen; omega)⟩
  clear hB hB1 hT hi hi1 hT1 hf hm hw hwn hil
  go_enter Tryz.func58, Tryz.ntmps58
  go_upto_region 1 with fail
  rw [← hW1]
  clear hW1 x1 x2 x3 f1 f2 f3 tz
  refine UpTo.rg 10 HSO.out fun wd KD hHeld => ?_
  refine UpTo.tk 0 hHeld ?_
  refine UpTo.tk 1 hHeld ?_
  refine UpTo.tk 2 hHeld ?_
  refine UpTo.tk 3 hHeld ?_
  refine UpTo.tk 4 hHeld ?_
  refine UpTo.tk 5 hHeld ?_
  refine UpTo.tk 6 hHeld ?_
  refine UpTo.tk 7 hHeld ?_
  refine UpTo.tk 8 hHeld ?_
  refine UpTo.tk 9 hHeld ?_
  refine UpTo.tw 10 11 (fun K hK => ?_) (fun K hK => ?_)
  · rw [if_pos (by rfl)]
    go_simp
    refine hK.out _ _ (fun _ => HSO.out _ KD) ?_
    clear hK K
    try simp only [Act.put, upA, upB, upC]
    refine UpTo.nx 11 (fun K hK => ?_)
    go_simp
    refine hK.out _ _ (fun _ => HSO.out _ KD) ?_
    clear hK K
    try simp only [Act.put, upA, upB, upC]
    refine UpTo.dn ?_
    have HBd := hide (HB1.out.kept KD)
    clear hHeld
    go_wp2
    go_loopw [35] (fun x wr => ∃ k : Nat, k ≤ m ∧ x = .int .i64 k ∧ BM G webl wz wr bb a cap rd rn rc mb mx (decT T1 ((ws t.r.name).take k)) d dc f ws) (fun x _ => m - (intOf x).toNat)
    case atStart => exact ⟨0, Nat.zero_le _, rfl, by rw [List.take_zero, decT_nil]; exact HBd.out⟩
    case round =>
      clear HBd KD
      obtain ⟨k, hk, rfl, hBk⟩ := hrel
      by_cases hlt : k < m
      · obtain ⟨bk, hbk⟩ : ∃ bk, (ws t.r.name)[k]? = some bk := ⟨_, List.getElem?_eq_getElem (by have := Hm.out; omega)⟩
        have hmem : bk ∈ ws t.r.name := List.mem_of_getElem? hbk
        obtain ⟨j, u, hj, hu, ho1, ho2⟩ := HW.out bk hmem
        have htk : (ws t.r.name).take (k + 1) = (ws t.r.name).take k ++ [bk] := by
          obtain ⟨h1, h2⟩ := List.getElem?_eq_some_iff.1 hbk
          rw [List.take_succ_eq_append_getElem h1, h2]
        have hnin : bk ∉ (ws t.r.name).take k := fun h => by
          have hn2 := HN.out
          obtain ⟨h1, h2⟩ := List.getElem?_eq_some_iff.1 hbk
          obtain ⟨q, hq, e⟩ := List.getElem_of_mem h
          rw [List.length_take] at hq
          rw [List.getElem_take] at e
          have := List.pairwise_iff_getElem.1 hn2 q k (by omega) h1 (by omega)
          exact this (e.trans h2.symm)
        obtain ⟨hd1, hd2⟩ := decT_snoc HB1.out.tbs hnin hj hu
        rw [← htk] at hd1
        have hUk := hBk.at hd2
        have o9 : wr.cell? ⟨u.tb, 9, none⟩ = some (.int .i64 (u.op : Int)) := hUk.rng 9 _ rfl
        have uz := hUk.row.lt
        obtain ⟨_, g9⟩ := hUk.row.row.at (i := 9) (by omega)
        have hrow := hBk.wrow t.r.name
        rw [Hf.out] at hrow
        obtain ⟨b, o, rfl, hb, hcs⟩ := cellsB_of_owned (by have := hrow; rw [← Hm.out] at this; exact this) k (by simp; have := Hm.out; omega)
        have c0 : wr.cell? ⟨b, o + k, none⟩ = some (.pointer (some ⟨u.tb, 0, none⟩)) := by rw [hcs k (ptrB bk) (by simp [hbk]), ← hu]; rfl
        have HSt := hide (hBk.store (t' := { u with op := u.op - 1 }) hd2 (o := 9) (v := .int .i64 ((u.op - 1 : Nat) : Int)) (by omega) rfl rfl rfl rfl rfl rfl rfl rfl rfl rfl)
        rw [← hd1] at HSt
        have hnum : ((u.op - 1 : Nat) : Int) = (u.op : Int) - 1 := by omega
        rw [hnum] at HSt
        have i0 : (k : Int) < (m : Int) := by omega
        clear hcs hrow hUk hd1 hd2 htk hnin hmem hbk hj hu hnum hBk
        go_wp2
        go_roundw
        case rel => exact ⟨k + 1, by omega, by go_num, HSt.out⟩
        case measure => simp [intOf]; omega
      · obtain rfl : k = m := by omega
        have htk : (ws t.r.name).take k = ws t.r.name := by rw [Hm.out]; exact List.take_length
        rw [htk] at hBk
        have HBk := hide hBk
        clear hBk htk
        have HTk := hide (decT_at (l := ws t.r.name) HI1.out)
        have HS6 : Hid (∀ w', Kept wr w' → w'.cell? ⟨bb, 5, none⟩ = some (.map (some mb)) ∧ w'.cell? ⟨t.tb, 0, none⟩ = some (.string t.r.name)) := fun w' K => ⟨(HBk.out.kept K).c5, by obtain ⟨u, h1, h2, h3⟩ := HTk.out; have h4 := ((HBk.out.kept K).at h1).rng 0 _ rfl; rw [h2, h3] at h4; exact h4⟩
        go_upto_region 6 with fail
        refine UpTo.rg 9 HS6.out fun wd KD hHeld => ?_
        refine UpTo.tk 0 hHeld ?_
        refine UpTo.tk 1 hHeld ?_
        refine UpTo.tk 2 hHeld ?_
        refine UpTo.tk 3 hHeld ?_
        refine UpTo.tk 4 hHeld ?_
        refine UpTo.tk 5 hHeld ?_
        refine UpTo.tk 6 hHeld ?_
        refine UpTo.tk 7 hHeld ?_
        refine UpTo.tk 8 hHeld ?_
        obtain ⟨w9, hrun, _, hB9⟩ := (HBk.out.kept KD).del (s := t.r.name) (by unfold maxLen; omega) 0
        have HB9 := hide hB9
        clear hB9
        refine UpTo.nx 9 (fun K hK => ?_)
        rw [if_pos (by rfl)]
        go_simp
        refine hK.out _ _ (fun h => absurd rfl h) ?_
        clear hK K
        try simp only [Act.put, upA, upB, upC]
        refine UpTo.dn ?_
        go_wp2
        go_end0
        exact ⟨rfl, HB9.out⟩
  · rw [if_pos (by rfl)]
    go_simp
    refine hK.out _ _ (fun _ => HSO.out _ KD) ?_
    clear hK K
    try simp only [Act.put, upA, upB, upC]
    refine UpTo.nx 10 (fun K hK => ?_)
    go_simp
    refine hK.out _ _ (fun _ => HSO.out _ KD) ?_
    clear hK K
    try simp only [Act.put, upA, upB, upC]
    refine UpTo.dn ?_
    have HBd := hide (HB1.out.kept KD)
    clear hHeld
    go_wp2
    go_loopw [35] (fun x wr => ∃ k : Nat, k ≤ m ∧ x = .int .i64 k ∧ BM G webl wz wr bb a cap rd rn rc mb mx (decT T1 ((ws t.r.name).take k)) d dc f ws) (fun x _ => m - (intOf x).toNat)
    case atStart => exact ⟨0, Nat.zero_le _, rfl, by rw [List.take_zero, decT_nil]; exact HBd.out⟩
    case round =>
      clear HBd KD
      obtain ⟨k, hk, rfl, hBk⟩ := hrel
      by_cases hlt : k < m
      · obtain ⟨bk, hbk⟩ : ∃ bk, (ws t.r.name)[k]? = some bk := ⟨_, List.getElem?_eq_getElem (by have := Hm.out; omega)⟩
        have hmem : bk ∈ ws t.r.name := List.mem_of_getElem? hbk
        obtain ⟨j, u, hj, hu, ho1, ho2⟩ := HW.out bk hmem
        have htk : (ws t.r.name).take (k + 1) = (ws t.r.name).take k ++ [bk] := by
          obtain ⟨h1, h2⟩ := List.getElem?_eq_some_iff.1 hbk
          rw [List.take_succ_eq_append_getElem h1, h2]
        have hnin : bk ∉ (ws t.r.name).take k := fun h => by
          have hn2 := HN.out
          obtain ⟨h1, h2⟩ := List.getElem?_eq_some_iff.1 hbk
          obtain ⟨q, hq, e⟩ := List.getElem_of_mem h
          rw [List.length_take] at hq
          rw [List.getElem_take] at e
          have := List.pairwise_iff_getElem.1 hn2 q k (by omega) h1 (by omega)
          exact this (e.trans h2.symm)
        obtain ⟨hd1, hd2⟩ := decT_snoc HB1.out.tbs hnin hj hu
        rw [← htk] at hd1
        have hUk := hBk.at hd2
        have o9 : wr.cell? ⟨u.tb, 9, none⟩ = some (.int .i64 (u.op : Int)) := hUk.rng 9 _ rfl
        have uz := hUk.row.lt
        obtain ⟨_, g9⟩ := hUk.row.row.at (i := 9) (by omega)
        have hrow := hBk.wrow t.r.name
        rw [Hf.out] at hrow
        obtain ⟨b, o, rfl, hb, hcs⟩ := cellsB_of_owned (by have := hrow; rw [← Hm.out] at this; exact this) k (by simp; have := Hm.out; omega)
        have c0 : wr.cell? ⟨b, o + k, none⟩ = some (.pointer (some ⟨u.tb, 0, none⟩)) := by rw [hcs k (ptrB bk) (by simp [hbk]), ← hu]; rfl
        have HSt := hide (hBk.store (t' := { u with op := u.op - 1 }) hd2 (o := 9) (v := .int .i64 ((u.op - 1 : Nat) : Int)) (by omega) rfl rfl rfl rfl rfl rfl rfl rfl rfl rfl)
        rw [← hd1] at HSt
        have hnum : ((u.op - 1 : Nat) : Int) = (u.op : Int) - 1 := by omega
        rw [hnum] at HSt
        have i0 : (k : Int) < (m : Int) := by omega
        clear hcs hrow hUk hd1 hd2 htk hnin hmem hbk hj hu hnum hBk
        go_wp2
        go_roundw
        case rel => exact ⟨k + 1, by omega, by go_num, HSt.out⟩
        case measure => simp [intOf]; omega
      · obtain rfl : k = m := by omega
        have htk : (ws t.r.name).take k = ws t.r.name := by rw [Hm.out]; exact List.take_length
        rw [htk] at hBk
        have HBk := hide hBk
        clear hBk htk
        have HTk := hide (decT_at (l := ws t.r.name) HI1.out)
        have HS6 : Hid (∀ w', Kept wr w' → w'.cell? ⟨bb, 5, none⟩ = some (.map (some mb)) ∧ w'.cell? ⟨t.tb, 0, none⟩ = some (.string t.r.name)) := fun w' K => ⟨(HBk.out.kept K).c5, by obtain ⟨u, h1, h2, h3⟩ := HTk.out; have h4 := ((HBk.out.kept K).at h1).rng 0 _ rfl; rw [h2, h3] at h4; exact h4⟩
        go_upto_region 6 with fail
        refine UpTo.rg 9 HS6.out fun wd KD hHeld => ?_
        refine UpTo.tk 0 hHeld ?_
        refine UpTo.tk 1 hHeld ?_
        refine UpTo.tk 2 hHeld ?_
        refine UpTo.tk 3 hHeld ?_
        refine UpTo.tk 4 hHeld ?_
        refine UpTo.tk 5 hHeld ?_
        refine UpTo.tk 6 hHeld ?_
        refine UpTo.tk 7 hHeld ?_
        refine UpTo.tk 8 hHeld ?_
        obtain ⟨w9, hrun, _, hB9⟩ := (HBk.out.kept KD).del (s := t.r.name) (by unfold maxLen; omega) 0
        have HB9 := hide hB9
        clear hB9
        refine UpTo.nx 9 (fun K hK => ?_)
        rw [if_pos (by rfl)]
        go_simp
        refine hK.out _ _ (fun h => absurd rfl h) ?_
        clear hK K
        try simp only [Act.put, upA, upB, upC]
        refine UpTo.dn ?_
        go_wp2
        go_end0
        exact ⟨rfl, HB9.out⟩
end
end Go.Proofs.YtjhemildijapmaaGreatDoor
