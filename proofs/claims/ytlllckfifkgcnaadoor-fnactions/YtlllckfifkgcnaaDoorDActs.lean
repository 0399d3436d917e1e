import Derived.Test.YtlllckfifkgcnaaDoorDGo
import Derived.Test.YtlllckfifkgcnaaDoorWGo7b
import Derived.Test.YtlllckfifkgcnaaDoorFSpec2
import Derived.Test.YtlllckfifkgcnaaDoorFImpl2

/-
  THE WALK over laws.FnActions.
-/
namespace Go.Proofs.YtlllckfifkgcnaaDoor
open Go.RowKit

theorem finB_size (give : ByteArray) (l : List ByteArray) : (finB give l).size ≤ 200 := by
  show (finishOf give.data.toList (texts l)).toArray.size ≤ 200
  unfold finishOf
  split
  · simp
  · split
    · simpa using ‹_›
    · simp [hexL_length]

/-- What GoOn gives is a step of the action, or tells why it is over. -/
theorem WentOn.good {cost : Int} {l : List StepD} {at' : Int} {ans : List AnswerD} {g : GoneD} (h : WentOn cost l at' ans g) : (g.code = 0 → g.over = false → 0 ≤ g.at' ∧ g.at' < l.length) ∧ (g.over = true → 7 ≤ g.text.size) := by
  rcases h with ⟨_, rfl⟩ | ⟨⟨hA, ⟨h1, h2⟩, hf⟩, h⟩
  · exact ⟨fun e => by simp [GoneD.none] at e, fun e => by simp [GoneD.none] at e⟩
  · have hat : at'.toNat < l.length := by omega
    have hs : StepOk (stepAt l at') l.length := hA.2.2 at'.toNat hat
    obtain ⟨⟨_, _, _, hn, _, he, hfall, _⟩, hc⟩ := hs.2 hf
    rcases h with ⟨_, rfl⟩ | ⟨hAns, ⟨i, hi, _, _, ⟨_, rfl⟩ | ⟨hne, rfl⟩⟩ | ⟨_, r, hr, rfl⟩⟩
    · exact ⟨fun e => by simp [GoneD.none] at e, fun e => by simp [GoneD.none] at e⟩
    · refine ⟨fun _ e => by simp at e, fun _ => ?_⟩
      have := (hn i (by rw [← hAns.1]; exact hi)).1.1
      show 7 ≤ (belowOf (stepAt l at') i).size
      unfold belowOf
      rw [ByteArray.size_append]
      show 7 ≤ 6 + _
      omega
    · exact ⟨fun _ _ => ⟨by show 0 ≤ (stepAt l at').fall; omega, hfall.2⟩, fun e => by simp at e⟩
    · refine ⟨fun _ _ => ?_, fun e => by simp at e⟩
      show 0 ≤ r ∧ r < l.length
      rcases hr with ⟨_, rfl⟩ | ⟨_, ⟨j, hj, _, _, rfl⟩ | ⟨_, rfl⟩⟩
      · exact he
      · exact (hc j hj).2
      · exact he

theorem actCells {w wi : World} {x y : Value} {t : TypeId} (K : Kept (w.alloc (.cells #[x, y] t)) wi) : wi.cell? ⟨w.heap.size, 0, none⟩ = some x ∧ wi.cell? ⟨w.heap.size, 1, none⟩ = some y :=
  ⟨(K.cell (by simp)).trans (range_new w #[x, y] t 0 _ rfl), (K.cell (by simp)).trans (range_new w #[x, y] t 1 _ rfl)⟩

set_option maxRecDepth 100000 in
set_option maxHeartbeats 6400000 in
theorem lawActions (w : World) (a : Option Addr) (cap : Nat) (bs : List UInt8) (hB : BytesAt w a bs) (hcap : bs.length ≤ cap) (hlen : bs.length ≤ maxLen) (hTab : TabOk w) :
    Calls Tryd.prog 3 #[.slice a bs.length cap] w fun e w' => e = .returned (.bool true) ∧ Kept w w' := by
  unfold maxLen at hlen
  by_cases hbig : (1048576 : Int) < bs.length
  · go_enter Tryd.func3, Tryd.ntmps3
    go_wp2
    go_ret
    exact ⟨rfl, Kept.refl _⟩
  · go_enter Tryd.func3, Tryd.ntmps3
    go_wp2_with fail
    refine (drawGoOn_any _ a cap bs hB hcap (by omega)).mono ?_
    rintro e w1 ⟨cost, at', sa, d, sc, dc, L, ans, rfl, hL, hty, hal, has, hS, hD, k1⟩
    have hf : ∀ s ∈ L, s.Fits := fun s hs => (hty s hs).fits (by omega)
    have k2 : Kept w1 (w1.alloc (.cells #[.int .i64 cost, .slice sa L.length sc] 25)) := (Kept.refl _).alloc _
    have HS := hide (hS.kept k2)
    have HD := hide (hD.kept k2)
    have HF := hide hf
    have HK2 : Hid (Kept w (w1.alloc (.cells #[.int .i64 cost, .slice sa L.length sc] 25))) := k1.trans k2
    have hal2 : ans.length ≤ maxLen := by unfold maxLen; omega
    have has2 : ∀ c ∈ ans, c.text.size ≤ maxLen := fun c hc => by have := has c hc; unfold maxLen; omega
    have hL2 : L.length ≤ maxLen := by unfold maxLen; omega
    have HAL := hide hal2
    have HAS := hide has2
    have HL2 := hide hL2
    clear hS hD hty hf k1 k2 hal2 has2 hL2 has
    go_wp2_with fail
    refine (implGoOn_any _ cost at' sa d sc dc L ans HL2.out HF.out HS.out HAL.out HAS.out HD.out).mono ?_
    rintro e w3 ⟨⟨g, rfl, hg⟩, k3⟩
    obtain ⟨gc, go, gt, gx⟩ := g
    have HG := hide hg
    have hgood := hg.good
    clear hg
    have hcells : (GoneD.mk gc go gt gx).cells.toArray = #[.int .i64 gc, .bool go, .int .i64 gt, .string gx] := rfl
    rw [hcells]
    clear hcells
    have k4 : Kept w3 (w3.alloc (.cells #[.int .i64 gc, .bool go, .int .i64 gt, .string gx] 30)) := (Kept.refl _).alloc _
    obtain ⟨p1, p2⟩ := actCells (k3.trans k4)
    have r0 := range_new w3 #[.int .i64 gc, .bool go, .int .i64 gt, .string gx] 30 0 _ rfl
    have r1 := range_new w3 #[.int .i64 gc, .bool go, .int .i64 gt, .string gx] 30 1 _ rfl
    have r2 := range_new w3 #[.int .i64 gc, .bool go, .int .i64 gt, .string gx] 30 2 _ rfl
    have r3 := range_new w3 #[.int .i64 gc, .bool go, .int .i64 gt, .string gx] 30 3 _ rfl
    simp only [Nat.zero_add] at r0 r1 r2 r3
    have hzA : w1.heap.size < (w3.alloc (.cells #[.int .i64 gc, .bool go, .int .i64 gt, .string gx] 30)).heap.size := by have := (k3.trans k4).size; simp only [World.size_alloc] at this ⊢; omega
    have hzG : w3.heap.size < (w3.alloc (.cells #[.int .i64 gc, .bool go, .int .i64 gt, .string gx] 30)).heap.size := by simp
    have HSb := hide (HS.out.kept (k3.trans k4))
    have HDb := hide (HD.out.kept (k3.trans k4))
    have HKb := hide (HK2.out.trans (k3.trans k4))
    clear k3 k4
    go_upto_region 5 with fail
    generalize hwb : w3.alloc (.cells #[.int .i64 gc, .bool go, .int .i64 gt, .string gx] 30) = wb at HSb HDb HKb p1 p2 r0 r1 r2 r3 hzA hzG ⊢
    clear hwb
    have kd : Kept wb wb.drew := (Kept.refl _).drew
    refine UpTo.region (by kernel_rfl) (fun w' => w'.cell? ⟨w1.heap.size, 0, none⟩ = some (.int .i64 cost) ∧ w'.cell? ⟨w1.heap.size, 1, none⟩ = some (.slice sa L.length sc) ∧ w'.cell? ⟨w3.heap.size, 0, none⟩ = some (.int .i64 gc) ∧ w'.cell? ⟨w3.heap.size, 1, none⟩ = some (.bool go) ∧ w'.cell? ⟨w3.heap.size, 2, none⟩ = some (.int .i64 gt) ∧ w'.cell? ⟨w3.heap.size, 3, none⟩ = some (.string gx)) 5 ⟨p1, p2, r0, r1, r2, r3⟩ (fun hHeld => ?_)
    have HSd := hide (HSb.out.kept kd)
    have HDd := hide (HDb.out.kept kd)
    have HKd := hide (HKb.out.trans kd)
    have hzA2 : w1.heap.size < wb.drew.heap.size := hzA
    have hzG2 : w3.heap.size < wb.drew.heap.size := hzG
    generalize hwd : wb.drew = wd at HSd HDd HKd hHeld hzA2 hzG2 ⊢
    clear hwd kd HSb HDb HKb p1 p2 r0 r1 r2 r3 hzA hzG
    refine UpTo.take 0 [5] (v := ?_) (by (simp only [List.getElem?_toArray, List.getElem?_cons_zero]; rfl)) (by kernel_rfl) (by kernel_rfl) (by kernel_rfl) (by kernel_rfl) (by exact fun _ _ _ h => h) (Or.inl ⟨by rfl, ?_⟩) hHeld ?_
    rotate_left
    · intro u hu
      try dsimp only at hu
      go_simp
      try with_reducible rfl
    try simp only [Act.put, List.setIfInBounds_toArray, List.set_cons_zero, List.set_cons_succ]
    refine UpTo.take 1 [4, 5] (v := ?_) (by (simp only [List.getElem?_toArray, List.getElem?_cons_succ, List.getElem?_cons_zero]; rfl)) (by kernel_rfl) (by kernel_rfl) (by kernel_rfl) (by kernel_rfl) (by exact fun _ _ _ h => h) (Or.inl ⟨by rfl, ?_⟩) hHeld ?_
    rotate_left
    · intro u hu
      try dsimp only at hu
      go_simp
      try with_reducible rfl
    try simp only [Act.put, List.setIfInBounds_toArray, List.set_cons_zero, List.set_cons_succ]
    refine UpTo.take 2 [4, 5] (v := ?_) (by (simp only [List.getElem?_toArray, List.getElem?_cons_succ, List.getElem?_cons_zero]; rfl)) (by kernel_rfl) (by kernel_rfl) (by kernel_rfl) (by kernel_rfl) (by exact fun _ _ _ h => h) (Or.inl ⟨by rfl, ?_⟩) hHeld ?_
    rotate_left
    · intro u hu
      try dsimp only at hu
      go_simp
      try with_reducible rfl
    try simp only [Act.put, List.setIfInBounds_toArray, List.set_cons_zero, List.set_cons_succ]
    refine UpTo.take 3 [4, 5] (v := ?_) (by (simp only [List.getElem?_toArray, List.getElem?_cons_succ, List.getElem?_cons_zero]; rfl)) (by kernel_rfl) (by kernel_rfl) (by kernel_rfl) (by kernel_rfl) (by exact fun _ _ _ h => h) (Or.inl ⟨by rfl, ?_⟩) hHeld ?_
    rotate_left
    · intro u hu
      try dsimp only at hu
      go_simp
      try with_reducible rfl
    try simp only [Act.put, List.setIfInBounds_toArray, List.set_cons_zero, List.set_cons_succ]
    refine UpTo.next 4 (by kernel_rfl) (by (simp only [List.getElem?_toArray, List.getElem?_cons_succ, List.getElem?_cons_zero]; rfl)) (fun K hK => ?_)
    rw [if_pos (by rfl)]
    go_simp
    go_at_call 7
    refine (specGoOn_any _ cost at' sa d sc dc L ans HL2.out HF.out HSd.out HAL.out HAS.out HDd.out).mono ?_
    rintro e w5 ⟨⟨g', rfl, hg'⟩, k5⟩
    obtain rfl : GoneD.mk gc go gt gx = g' := HG.out.unique hg'
    clear hg'
    have hcells : (GoneD.mk gc go gt gx).cells.toArray = #[.int .i64 gc, .bool go, .int .i64 gt, .string gx] := rfl
    rw [hcells]
    clear hcells
    have q1 := (k5.cell (o := 0) hzA2).trans hHeld.1
    have q2 := (k5.cell (o := 1) hzA2).trans hHeld.2.1
    have q3 := (k5.cell (o := 0) hzG2).trans hHeld.2.2.1
    have q4 := (k5.cell (o := 1) hzG2).trans hHeld.2.2.2.1
    have q5 := (k5.cell (o := 2) hzG2).trans hHeld.2.2.2.2.1
    have q6 := (k5.cell (o := 3) hzG2).trans hHeld.2.2.2.2.2
    have hzA3 : w1.heap.size < w5.heap.size := Nat.lt_of_lt_of_le hzA2 k5.size
    have hzG3 : w3.heap.size < w5.heap.size := Nat.lt_of_lt_of_le hzG2 k5.size
    have HK5 := hide (HKd.out.trans k5)
    dsimp only
    refine hK.out _ _ (fun _ => ⟨q1, q2, q3, q4, q5, q6⟩) ?_
    clear hK K hHeld HSd HDd HKd hzA2 hzG2 k5 HS HD HK2
    try simp only [Act.put, List.setIfInBounds_toArray, List.set_cons_zero, List.set_cons_succ]
    refine UpTo.next 5 (by kernel_rfl) (by (simp only [List.getElem?_toArray, List.getElem?_cons_succ, List.getElem?_cons_zero]; rfl)) (fun K hK => ?_)
    go_simp
    refine hK.out _ _ (fun h => absurd rfl h) ?_
    clear hK K
    try simp only [Act.put, List.setIfInBounds_toArray, List.set_cons_zero, List.set_cons_succ]
    refine UpTo.done (by kernel_rfl) ?_
    obtain ⟨hg1, hg2⟩ := hgood
    have HHg1 := hide hg1
    have HHg2 := hide hg2
    clear hg1 hg2
    by_cases hgc : gc = 0
    · have egc : (gc == 0) = true := by simp [hgc]
      cases go
      · obtain ⟨h1, h2⟩ := HHg1.out hgc rfl
        clear hgc
        go_wp2_with fail
        refine (drawFinish_any _ a cap bs (hB.kept HK5.out) hcap (by omega)).mono ?_
        rintro e w6 ⟨gv, ta, tc, l, rfl, hgv, hl, hlc, hls, hT, k6⟩
        have K6 := HK5.out.trans k6
        have hgv2 : gv.size ≤ maxLen := by unfold maxLen; omega
        have hl2 : l.length ≤ maxLen := by unfold maxLen; omega
        have hls2 : ∀ s ∈ l, s.size ≤ maxLen := fun s hs => by have := hls s hs; unfold maxLen; omega
        have HKe := hide K6
        have HT := hide hT
        clear K6 k6 hT HK5 hls
        have hfz := finB_size gv l
        go_wp2_with fail
        refine (finish_any _ gv ta tc l hgv2 hl2 HT.out hlc (hTab.kept HKe.out)).mono ?_
        rintro e w7 ⟨rfl, k7⟩
        have HT7 := hide (HT.out.kept k7)
        have HK7 := hide (HKe.out.trans k7)
        clear k7 HT HKe
        obtain ⟨r, hr⟩ : ∃ r, r = finB gv l := ⟨_, rfl⟩
        rw [← hr] at hfz ⊢
        have HRr := hide hr
        clear hr
        go_wp2_with fail
        refine (specFinish_any _ gv ta tc l hgv2 hl2 hls2 HT7.out).mono ?_
        rintro e w8 ⟨rfl, k8⟩
        rw [← HRr.out]
        have HK8 := hide (HK7.out.trans k8)
        clear k8 HK7 HT7 HRr hls2 hgv2 hl2
        have hfz' : (r.size : Int) ≤ 200 := by omega
        go_wp2
        go_ret
        exact ⟨rfl, HK8.out⟩
      · have h1 := HHg2.out rfl
        have h1' : ¬ (gx.size : Int) < 7 := by omega
        clear hgc
        go_wp2_with fail
        refine (drawFinish_any _ a cap bs (hB.kept HK5.out) hcap (by omega)).mono ?_
        rintro e w6 ⟨gv, ta, tc, l, rfl, hgv, hl, hlc, hls, hT, k6⟩
        have K6 := HK5.out.trans k6
        have hgv2 : gv.size ≤ maxLen := by unfold maxLen; omega
        have hl2 : l.length ≤ maxLen := by unfold maxLen; omega
        have hls2 : ∀ s ∈ l, s.size ≤ maxLen := fun s hs => by have := hls s hs; unfold maxLen; omega
        have HKe := hide K6
        have HT := hide hT
        clear K6 k6 hT HK5 hls
        have hfz := finB_size gv l
        go_wp2_with fail
        refine (finish_any _ gv ta tc l hgv2 hl2 HT.out hlc (hTab.kept HKe.out)).mono ?_
        rintro e w7 ⟨rfl, k7⟩
        have HT7 := hide (HT.out.kept k7)
        have HK7 := hide (HKe.out.trans k7)
        clear k7 HT HKe
        obtain ⟨r, hr⟩ : ∃ r, r = finB gv l := ⟨_, rfl⟩
        rw [← hr] at hfz ⊢
        have HRr := hide hr
        clear hr
        go_wp2_with fail
        refine (specFinish_any _ gv ta tc l hgv2 hl2 hls2 HT7.out).mono ?_
        rintro e w8 ⟨rfl, k8⟩
        rw [← HRr.out]
        have HK8 := hide (HK7.out.trans k8)
        clear k8 HK7 HT7 HRr hls2 hgv2 hl2
        have hfz' : (r.size : Int) ≤ 200 := by omega
        go_wp2
        go_ret
        exact ⟨rfl, HK8.out⟩
    · have egc : (gc == 0) = false := by simpa using hgc
      cases go
      · clear hgc
        go_wp2_with fail
        refine (drawFinish_any _ a cap bs (hB.kept HK5.out) hcap (by omega)).mono ?_
        rintro e w6 ⟨gv, ta, tc, l, rfl, hgv, hl, hlc, hls, hT, k6⟩
        have K6 := HK5.out.trans k6
        have hgv2 : gv.size ≤ maxLen := by unfold maxLen; omega
        have hl2 : l.length ≤ maxLen := by unfold maxLen; omega
        have hls2 : ∀ s ∈ l, s.size ≤ maxLen := fun s hs => by have := hls s hs; unfold maxLen; omega
        have HKe := hide K6
        have HT := hide hT
        clear K6 k6 hT HK5 hls
        have hfz := finB_size gv l
        go_wp2_with fail
        refine (finish_any _ gv ta tc l hgv2 hl2 HT.out hlc (hTab.kept HKe.out)).mono ?_
        rintro e w7 ⟨rfl, k7⟩
        have HT7 := hide (HT.out.kept k7)
        have HK7 := hide (HKe.out.trans k7)
        clear k7 HT HKe
        obtain ⟨r, hr⟩ : ∃ r, r = finB gv l := ⟨_, rfl⟩
        rw [← hr] at hfz ⊢
        have HRr := hide hr
        clear hr
        go_wp2_with fail
        refine (specFinish_any _ gv ta tc l hgv2 hl2 hls2 HT7.out).mono ?_
        rintro e w8 ⟨rfl, k8⟩
        rw [← HRr.out]
        have HK8 := hide (HK7.out.trans k8)
        clear k8 HK7 HT7 HRr hls2 hgv2 hl2
        have hfz' : (r.size : Int) ≤ 200 := by omega
        go_wp2
        go_ret
        exact ⟨rfl, HK8.out⟩
      · have h1 := HHg2.out rfl
        have h1' : ¬ (gx.size : Int) < 7 := by omega
        clear hgc
        go_wp2_with fail
        refine (drawFinish_any _ a cap bs (hB.kept HK5.out) hcap (by omega)).mono ?_
        rintro e w6 ⟨gv, ta, tc, l, rfl, hgv, hl, hlc, hls, hT, k6⟩
        have K6 := HK5.out.trans k6
        have hgv2 : gv.size ≤ maxLen := by unfold maxLen; omega
        have hl2 : l.length ≤ maxLen := by unfold maxLen; omega
        have hls2 : ∀ s ∈ l, s.size ≤ maxLen := fun s hs => by have := hls s hs; unfold maxLen; omega
        have HKe := hide K6
        have HT := hide hT
        clear K6 k6 hT HK5 hls
        have hfz := finB_size gv l
        go_wp2_with fail
        refine (finish_any _ gv ta tc l hgv2 hl2 HT.out hlc (hTab.kept HKe.out)).mono ?_
        rintro e w7 ⟨rfl, k7⟩
        have HT7 := hide (HT.out.kept k7)
        have HK7 := hide (HKe.out.trans k7)
        clear k7 HT HKe
        obtain ⟨r, hr⟩ : ∃ r, r = finB gv l := ⟨_, rfl⟩
        rw [← hr] at hfz ⊢
        have HRr := hide hr
        clear hr
        go_wp2_with fail
        refine (specFinish_any _ gv ta tc l hgv2 hl2 hls2 HT7.out).mono ?_
        rintro e w8 ⟨rfl, k8⟩
        rw [← HRr.out]
        have HK8 := hide (HK7.out.trans k8)
        clear k8 HK7 HT7 HRr hls2 hgv2 hl2
        have hfz' : (r.size : Int) ≤ 200 := by omega
        go_wp2
        go_ret
        exact ⟨rfl, HK8.out⟩

end Go.Proofs.YtlllckfifkgcnaaDoor
