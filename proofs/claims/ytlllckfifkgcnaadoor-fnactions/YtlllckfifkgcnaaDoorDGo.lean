import Derived.Test.YtlllckfifkgcnaaDoorDGo0
import Derived.Test.YtlllckfifkgcnaaDoorDDraw

/-
  THE WALK over spec.DrawGoOn.
-/
namespace Go.Proofs.YtlllckfifkgcnaaDoor
open Go.RowKit

theorem BytesAt.kept {w w' : World} {a : Option Addr} {bs : List UInt8} (h : BytesAt w a bs) (k : Kept w w') : BytesAt w' a bs := fun i hi => by
  obtain ⟨b, o, e, hb, hc⟩ := h i hi
  exact ⟨b, o, e, Nat.lt_of_lt_of_le hb k.size, by rw [k.cell hb]; exact hc⟩
theorem lit_mem0 (w : World) (t : TypeId) (cs : List Int) (q : Nat) (hq : q < cs.length) : ∃ c ∈ cs, (w.alloc (.cells (cs.map (Value.int .i64)).toArray t)).cell? ⟨w.heap.size, q, none⟩ = some (.int .i64 c) := by
  refine ⟨cs[q], List.getElem_mem hq, ?_⟩
  rw [World.cell?_alloc_mark]
  simp [hq]

set_option maxRecDepth 100000 in
set_option maxHeartbeats 6400000 in
theorem drawGoOn_any (w : World) (a : Option Addr) (cap : Nat) (bs : List UInt8) (hB : BytesAt w a bs) (hcap : bs.length ≤ cap) (hlen : bs.length ≤ 100000000) :
    Calls Tryd.prog 5 #[.slice a bs.length cap] w fun e w' => DrewGo w w' e := by
  go_enter Tryd.func5, Tryd.ntmps5
  go_wp2_with fail
  refine (open_any _ a cap bs (hB.kept ((Kept.refl w).alloc _)) hcap hlen).mono ?_
  rintro e W ⟨rb, rfl, hrb, hR0, k0⟩
  obtain ⟨bs', hbs'⟩ : ∃ bs', bs' = bs.take 2000 := ⟨_, rfl⟩
  have hbl : bs'.length ≤ 2000 := by rw [hbs', List.length_take]; omega
  rw [← hbs'] at hR0
  have HR0 := hide hR0
  have HK0 : Hid (Kept w W) := ((Kept.refl w).alloc _).trans k0
  have HRes : Hid (RowT W w.heap.size 25 2) := (RowT.made w #[.int .i64 0, .slice none 0 0] 25).kept k0
  have hrb1 : w.heap.size < rb := by rw [World.size_alloc] at hrb; omega
  clear hR0 k0 hbs' hB hcap hlen hrb
  go_wp2_with fail
  refine (drawAction_any _ rb a cap bs' 0 5 8 HR0.out (by omega) (by omega) (by omega) hbl).mono ?_
  rintro e w1 ⟨cost, v, L, p1, rfl, hp1, hp1', hL1, hL2, hco, hty, hT, hR1, kb1⟩
  have HF : Hid (FinSt 20 W (w1.alloc (.cells #[.int .i64 cost, v] 25)) rb w1.heap.size a cap bs' p1 cost v L) := FinSt.first hR1 kb1 hT.stW hty
  have hab : W.heap.size ≤ w1.heap.size := kb1.size
  obtain ⟨sa, sc, rfl, hsc, _⟩ := hT.stW.steps
  clear hT hR1 kb1 hty
  go_wp2
  go_loopg [7] 4 (fun gg x wr => ∃ (i p' : Nat) (cost : Int) (sa : Option Addr) (sc : Nat) (L : List StepD), x = .int .i64 (i : Int) ∧ i + gg = 4 ∧ p' ≤ 100 + 100 * i ∧ 1 ≤ L.length ∧ L.length ≤ 20 ∧ (-1000 ≤ cost ∧ cost ≤ 1000) ∧ FinSt 20 W wr rb w1.heap.size a cap bs' p' cost (.slice sa L.length sc) L)
  case atStart => exact ⟨0, p1, cost, sa, sc, L, rfl, rfl, by omega, hL1, hL2, hco, HF.out⟩
  case round =>
    clear HF hL1 hL2 hco hsc
    obtain ⟨i, p2, cost, sa, sc, L, rfl, hi, hp2, hL1, hL2, hco, hF⟩ := hrel
    have HF := hide hF
    clear hF
    have y1 := HF.out.c1
    have yz := HF.out.row.lt
    by_cases hgo : i < 4 ∧ L.length = 1
    · obtain ⟨hi4, hl1⟩ := hgo
      have hi4' : (i : Int) < 4 := by omega
      have el1 : ((L.length : Int) == 1) = true := by simp [hl1]
      have HL1 := hide hl1
      clear hl1
      go_wp2_with fail
      refine (drawAction_any _ rb a cap bs' p2 5 8 HF.out.rd (by omega) (by omega) (by omega) hbl).mono ?_
      rintro e w2 ⟨cost2, v2, L2, p3, rfl, hp3, hp3', hM1, hM2, hco2, hty, hT, hR1, kb1⟩
      have HF2 := hide (HF.out.put (cost' := cost2) HR0.out hab hR1 kb1 hT.stW hty)
      have HF3 := hide (HF.out.drawn hR1 kb1)
      obtain ⟨sa2, sc2, rfl, hsc2, _⟩ := hT.stW.steps
      obtain ⟨⟨_, x0⟩, g0⟩ := HF3.out.row.row.at (i := 0) (by omega)
      obtain ⟨⟨_, x1⟩, g1⟩ := HF3.out.row.row.at (i := 1) (by omega)
      have xz := HF3.out.row.lt
      clear hT hR1 kb1 hty HF y1 yz HF3
      go_wp2
      go_roundg (gk - 1)
      case measure => omega
      case rel => exact ⟨i + 1, p3, cost2, sa2, sc2, L2, by go_num, by omega, by omega, hM1, hM2, hco2, HF2.out⟩
    · have hp2b : p2 ≤ 500 := by omega
      have hx : (i : Int) < 4 → ((L.length : Int) == 1) = false := fun h => by have h1 : ¬ ((L.length : Int) = 1) := fun e => hgo ⟨by omega, by omega⟩; simpa using h1
      clear hgo
      go_upto_region 4 with fail
      go_cut [22] from 15 to 21 (fun s22 wx => s22 = .bool false ∧ wx = wr)
      case first =>
        by_cases hi4 : (i : Int) < 4
        · have el1 := hx hi4
          go_wp2_with fail
          go_meet
          exact ⟨rfl, rfl⟩
        · go_wp2_with fail
          go_meet
          exact ⟨rfl, rfl⟩
      case rest =>
        obtain ⟨rfl, rfl⟩ := hcut
        go_wp2_with fail
        refine (pick_at _ rb a cap bs' p2 _ 12 rfl HF.out.rd (by omega) (by omega) hbl).mono ?_
        rintro e w3 ⟨v3, rfl, hv3, hR, kb⟩
        have HF3 := hide ((HF.out.drawn hR kb).wide (N := 30) (by omega))
        have HF4 := hide (HF.out.drawn hR kb)
        clear hR kb y1 yz
        go_upto_if 29 with fail
        go_cut [6] from 29 to 32 (fun s6 wx => ∃ (cost : Int) (sa : Option Addr) (sc : Nat) (L : List StepD) (p' : Nat), s6 = .pointer (some ⟨w1.heap.size, 0, none⟩) ∧ L.length ≤ 21 ∧ p' ≤ p2 + 20 ∧ FinSt 30 W wx rb w1.heap.size a cap bs' p' cost (.slice sa L.length sc) L)
        case first =>
          by_cases h0 : v3 = 0
          · have e0 : ((v3 : Int) == 0) = true := by simp [h0]
            clear h0
            have c0 := HF4.out.c0
            have c1 := HF4.out.c1
            have cz := HF4.out.row.lt
            obtain ⟨sa3, sc3, es, _, hSN⟩ := HF4.out.stw.stepsN
            simp only [Value.slice.injEq, true_and] at es
            obtain ⟨rfl, rfl⟩ := es
            go_wp2_with fail
            refine (spoil_any 20 (by omega) _ rb a cap bs' (p2 + 1) cost sa sc L HF4.out.rd (by omega) hbl (by omega) hco HF4.out.tiny hSN).mono ?_
            rintro e w4 ⟨cost4, v4, L4, p4, rfl, hp4, hp4', hL4, hco4, hty, hS4, hR, kb⟩
            have HF5 := hide (HF4.out.put (cost' := cost4) HR0.out hab hR kb hS4 hty)
            have HF6 := hide (HF4.out.drawn hR kb)
            obtain ⟨sa4, sc4, rfl, _, _⟩ := hS4.steps
            obtain ⟨⟨_, x0⟩, g0⟩ := HF6.out.row.row.at (i := 0) (by omega)
            obtain ⟨⟨_, x1⟩, g1⟩ := HF6.out.row.row.at (i := 1) (by omega)
            have xz := HF6.out.row.lt
            clear hS4 hR kb hty c0 c1 cz HF6 hSN
            go_wp2_with fail
            go_meet
            exact ⟨cost4, sa4, sc4, L4, p4, rfl, by omega, by omega, HF5.out⟩
          · have e0 : ((v3 : Int) == 0) = false := by simpa using h0
            clear h0
            go_wp2_with fail
            go_meet
            exact ⟨cost, sa, sc, L, p2 + 1, rfl, by omega, by omega, HF3.out⟩
        case rest =>
          clear HF3 HF4 HF hx hL1 hL2 hco hi hv3
          obtain ⟨cost, sa, sc, L, p5, rfl, hL, hp5, hF⟩ := hcut
          have HF := hide hF
          clear hF
          have y1 := HF.out.c1
          have yz := HF.out.row.lt
          go_wp2_with fail
          refine (pick_any _ rb a cap bs' p5 L.length HF.out.rd (by omega) (by omega) hbl).mono ?_
          rintro e w6 ⟨q, rfl, hq, hR, kb⟩
          have HF6 := hide (HF.out.drawn hR kb)
          clear hR kb HF y1 yz
          go_wp2_with fail
          refine (pick_at _ rb a cap bs' (p5 + 1) _ 12 rfl HF6.out.rd (by omega) (by omega) hbl).mono ?_
          rintro e w7 ⟨v7, rfl, hv7, hR, kb⟩
          have HF7 := hide (HF6.out.drawn hR kb)
          clear hR kb HF6
          go_upto_if 40 with fail
          go_cut [8] from 40 to 48 (fun s8 wx => ∃ (x : Int) (p' : Nat), s8 = .int .i64 x ∧ -1 ≤ x ∧ x ≤ 21 ∧ p' ≤ p5 + 3 ∧ FinSt 30 W wx rb w1.heap.size a cap bs' p' cost (.slice sa L.length sc) L)
          case first =>
            by_cases h0 : v7 = 0
            · have e0 : ((v7 : Int) == 0) = true := by simp [h0]
              clear h0
              have HX1 := hide (HF7.out.kept ((Kept.refl w7).drew))
              have y0 := HX1.out.c1
              go_upto_region 11 with fail
              refine UpTo.region (by kernel_rfl) (fun w' => w'.cell? ⟨w1.heap.size, 1, none⟩ = some (.slice sa L.length sc)) 8 y0 (fun hHeld => ?_)
              generalize hwd : w7.drew = wd at HX1 hHeld ⊢
              clear hwd y0
              refine UpTo.take 0 [1, 2, 3, 6, 7, 8] (v := ?_) (by (simp only [List.getElem?_toArray, List.getElem?_cons_zero]; rfl)) (by kernel_rfl) (by kernel_rfl) (by kernel_rfl) (by kernel_rfl) (by exact fun _ _ _ h => h) (Or.inl ⟨by rfl, ?_⟩) hHeld ?_
              rotate_left
              · intro u hu
                try dsimp only at hu
                go_simp
                try with_reducible rfl
              try simp only [Act.put, List.setIfInBounds_toArray, List.set_cons_zero, List.set_cons_succ]
              refine UpTo.take 1 [2, 3, 6, 7, 8] (v := ?_) (by (simp only [List.getElem?_toArray, List.getElem?_cons_succ, List.getElem?_cons_zero]; rfl)) (by kernel_rfl) (by kernel_rfl) (by kernel_rfl) (by kernel_rfl) (by exact fun _ _ _ h => h) (Or.inl ⟨by rfl, ?_⟩) hHeld ?_
              rotate_left
              · intro u hu
                try dsimp only at hu
                go_simp
                try with_reducible rfl
              try simp only [Act.put, List.setIfInBounds_toArray, List.set_cons_zero, List.set_cons_succ]
              refine UpTo.take 2 [3, 6, 7, 8] (v := ?_) (by (simp only [List.getElem?_toArray, List.getElem?_cons_succ, List.getElem?_cons_zero]; rfl)) (by kernel_rfl) (by kernel_rfl) (by kernel_rfl) (by kernel_rfl) (by exact fun _ _ _ h => h) (Or.inl ⟨by rfl, ?_⟩) hHeld ?_
              rotate_left
              · intro u hu
                try dsimp only at hu
                go_simp
                try with_reducible rfl
              try simp only [Act.put, List.setIfInBounds_toArray, List.set_cons_zero, List.set_cons_succ]
              refine UpTo.take 4 [5, 6, 7, 8] (v := ?_) (by (simp only [List.getElem?_toArray, List.getElem?_cons_succ, List.getElem?_cons_zero]; rfl)) (by kernel_rfl) (by kernel_rfl) (by kernel_rfl) (by kernel_rfl) (by exact fun _ _ _ h => h) (Or.inl ⟨by rfl, ?_⟩) hHeld ?_
              rotate_left
              · intro u hu
                try dsimp only at hu
                go_simp
                try with_reducible rfl
              try simp only [Act.put, List.setIfInBounds_toArray, List.set_cons_zero, List.set_cons_succ]
              refine UpTo.two 3 5 (by kernel_rfl) (by (simp only [List.getElem?_toArray, List.getElem?_cons_succ, List.getElem?_cons_zero]; rfl)) (by (simp only [List.getElem?_toArray, List.getElem?_cons_succ, List.getElem?_cons_zero]; rfl)) (fun K hK => ?_) (fun K hK => ?_)
              · rw [if_pos (by rfl)]
                go_simp
                have K3 : Kept wd (wd.alloc (.cells #[.int .i64 (-1), .int .i64 (L.length : Int)] 3)) := (Kept.refl _).alloc _
                have HX2 := hide (HX1.out.kept K3)
                refine hK.out _ _ (fun _ => HX2.out.c1) ?_
                clear hK K
                try simp only [Act.put, List.setIfInBounds_toArray, List.set_cons_zero, List.set_cons_succ]
                clear hHeld K3
                refine UpTo.next 5 (by kernel_rfl) (by (simp only [List.getElem?_toArray, List.getElem?_cons_succ, List.getElem?_cons_zero]; rfl)) (fun K hK => ?_)
                rw [if_pos (by rfl)]
                go_simp
                go_at_call 16
                refine (pick_at _ rb a cap bs' (p5 + 2) _ 2 rfl HX2.out.rd (by omega) (by omega) hbl).mono ?_
                rintro e w8 ⟨q2, rfl, hq2, hR5, kb5⟩
                have HX3 := hide (HX2.out.drawn hR5 kb5)
                obtain ⟨c, hcm, hc⟩ := lit_mem [-1, (L.length : Int)] kb5 HX1.out.rd.row.lt q2 (by show q2 < 2; omega)
                have lz : wd.heap.size < w8.heap.size := Nat.lt_of_lt_of_le (by simp) kb5.size
                clear hR5 kb5
                dsimp only
                refine hK.out _ _ (fun _ => HX3.out.c1) ?_
                clear hK K
                try simp only [Act.put, List.setIfInBounds_toArray, List.set_cons_zero, List.set_cons_succ]
                have hqn : (q2 : Int) < 2 := by omega
                refine UpTo.next 6 (by kernel_rfl) (by (simp only [List.getElem?_toArray, List.getElem?_cons_succ, List.getElem?_cons_zero]; rfl)) (fun K hK => ?_)
                go_simp
                refine hK.out _ _ (fun _ => HX3.out.c1) ?_
                clear hK K
                try simp only [Act.put, List.setIfInBounds_toArray, List.set_cons_zero, List.set_cons_succ]
                refine UpTo.next 7 (by kernel_rfl) (by (simp only [List.getElem?_toArray, List.getElem?_cons_succ, List.getElem?_cons_zero]; rfl)) (fun K hK => ?_)
                go_simp
                refine hK.out _ _ (fun _ => HX3.out.c1) ?_
                clear hK K
                try simp only [Act.put, List.setIfInBounds_toArray, List.set_cons_zero, List.set_cons_succ]
                refine UpTo.next 8 (by kernel_rfl) (by (simp only [List.getElem?_toArray, List.getElem?_cons_succ, List.getElem?_cons_zero]; rfl)) (fun K hK => ?_)
                go_simp
                refine hK.out _ _ (fun h => absurd rfl h) ?_
                clear hK K
                try simp only [Act.put, List.setIfInBounds_toArray, List.set_cons_zero, List.set_cons_succ]
                refine UpTo.done (by kernel_rfl) ?_
                go_wp2_with fail
                go_meet
                exact ⟨c, p5 + 3, rfl, by simp at hcm; omega, by simp at hcm; omega, by omega, HX3.out⟩
              · rw [if_pos (by rfl)]
                go_simp
                go_at_call 16
                refine (pick_at _ rb a cap bs' (p5 + 2) _ 2 rfl HX1.out.rd (by omega) (by omega) hbl).mono ?_
                rintro e w8 ⟨q2, rfl, hq2, hR5, kb5⟩
                have HX2 := hide (HX1.out.drawn hR5 kb5)
                clear hR5 kb5
                dsimp only
                refine hK.out _ _ (fun _ => HX2.out.c1) ?_
                clear hK K
                try simp only [Act.put, List.setIfInBounds_toArray, List.set_cons_zero, List.set_cons_succ]
                clear hHeld
                refine UpTo.next 3 (by kernel_rfl) (by (simp only [List.getElem?_toArray, List.getElem?_cons_succ, List.getElem?_cons_zero]; rfl)) (fun K hK => ?_)
                rw [if_pos (by rfl)]
                go_simp
                have K3 : Kept w8 (w8.alloc (.cells #[.int .i64 (-1), .int .i64 (L.length : Int)] 3)) := (Kept.refl _).alloc _
                have HX3 := hide (HX2.out.kept K3)
                obtain ⟨c, hcm, hc⟩ := lit_mem0 w8 3 [-1, (L.length : Int)] q2 (by show q2 < 2; omega)
                clear K3
                have hc' : (w8.alloc (.cells #[.int .i64 (-1), .int .i64 (L.length : Int)] 3)).cell? ⟨w8.heap.size, q2, none⟩ = some (.int .i64 c) := hc
                have lz : w8.heap.size < (w8.alloc (.cells #[.int .i64 (-1), .int .i64 (L.length : Int)] 3)).heap.size := by simp
                clear hc
                refine hK.out _ _ (fun _ => HX3.out.c1) ?_
                clear hK K
                try simp only [Act.put, List.setIfInBounds_toArray, List.set_cons_zero, List.set_cons_succ]
                generalize hwe : w8.alloc (.cells #[.int .i64 (-1), .int .i64 (L.length : Int)] 3) = wE at HX3 hc' lz ⊢
                clear hwe
                have hqn : (q2 : Int) < 2 := by omega
                refine UpTo.next 6 (by kernel_rfl) (by (simp only [List.getElem?_toArray, List.getElem?_cons_succ, List.getElem?_cons_zero]; rfl)) (fun K hK => ?_)
                go_simp
                refine hK.out _ _ (fun _ => HX3.out.c1) ?_
                clear hK K
                try simp only [Act.put, List.setIfInBounds_toArray, List.set_cons_zero, List.set_cons_succ]
                refine UpTo.next 7 (by kernel_rfl) (by (simp only [List.getElem?_toArray, List.getElem?_cons_succ, List.getElem?_cons_zero]; rfl)) (fun K hK => ?_)
                go_simp
                refine hK.out _ _ (fun _ => HX3.out.c1) ?_
                clear hK K
                try simp only [Act.put, List.setIfInBounds_toArray, List.set_cons_zero, List.set_cons_succ]
                refine UpTo.next 8 (by kernel_rfl) (by (simp only [List.getElem?_toArray, List.getElem?_cons_succ, List.getElem?_cons_zero]; rfl)) (fun K hK => ?_)
                go_simp
                refine hK.out _ _ (fun h => absurd rfl h) ?_
                clear hK K
                try simp only [Act.put, List.setIfInBounds_toArray, List.set_cons_zero, List.set_cons_succ]
                refine UpTo.done (by kernel_rfl) ?_
                go_wp2_with fail
                go_meet
                exact ⟨c, p5 + 3, rfl, by simp at hcm; omega, by simp at hcm; omega, by omega, HX3.out⟩
            · have e0 : ((v7 : Int) == 0) = false := by simpa using h0
              clear h0
              go_wp2_with fail
              go_meet
              exact ⟨(q : Int), p5 + 2, rfl, by omega, by omega, by omega, HF7.out⟩
          case rest =>
            clear HF7 hq hv7
            obtain ⟨x, p6, rfl, hx1, hx2, hp6, hF⟩ := hcut
            have HB := hide (BSt.made HR0.out hF)
            clear hF
            have y1 := HB.out.act.c1
            have yz := HB.out.act.row.lt
            go_wp2_with fail
            refine (l1In_any _ x 0 _).mono ?_
            rintro e w8 ⟨⟨b, rfl, hbt⟩, rfl⟩
            go_upto_if 55 with fail
            go_cut [9, 10] from 56 to 78 (fun s9 _ wx => ∃ (u : Value) (l : List AnswerD) (p' : Nat), s9 = u ∧ l.length ≤ 30 ∧ p' ≤ p6 + 60 ∧ BSt W wx rb w1.heap.size a cap bs' p' cost (.slice sa L.length sc) L u l)
            case first =>
              cases b
              · go_wp2_with fail
                go_meet
                exact ⟨_, [], p6, rfl, by simp, by omega, HB.out⟩
              · have hb2 := hbt rfl
                obtain ⟨xn, rfl⟩ : ∃ xn : Nat, x = (xn : Int) := ⟨x.toNat, by omega⟩
                have hxl : xn < L.length := by omega
                have hxl' : (xn : Int) < (L.length : Int) := by omega
                obtain ⟨m, hm⟩ : ∃ m, m = (L.getD xn StepD.zero).asks.length := ⟨_, rfl⟩
                have hm30 : m ≤ 30 := by rw [hm]; exact (HB.out.act.tiny _ (by simp [List.getD, hxl])).asks
                obtain ⟨sb, so, rfl⟩ : ∃ sb so, sa = some ⟨sb, so, none⟩ := by obtain ⟨a0, c0, es, _, g0⟩ := HB.out.act.stw; obtain ⟨b0, o0, _, _, _, ea, _⟩ := g0 xn hxl; simp only [Value.slice.injEq, true_and] at es; exact ⟨b0, o0, es.1.trans ea⟩
                have HM := hide hm
                clear hm hb2 hbt hx1 hx2 y1 yz
                go_wp2
                go_loopg [9, 10] m (fun gg x9 x10 wr => ∃ (i p' : Nat) (l : List AnswerD), x10 = .int .i64 (i : Int) ∧ i + gg = m ∧ l.length = i ∧ p' ≤ p6 + 2 * i ∧ BSt W wr rb w1.heap.size a cap bs' p' cost (.slice (some ⟨sb, so, none⟩) L.length sc) L x9 l)
                case atStart => exact ⟨0, p6, [], rfl, by omega, rfl, by omega, HB.out⟩
                case round =>
                  clear HB
                  obtain ⟨i2, p7, l, rfl, hi2, hll, hp7, hB⟩ := hrel
                  have HB := hide hB
                  have HLl := hide hll
                  clear hB hll
                  obtain ⟨av, cv, rfl⟩ := own_slice HB.out.own
                  have y1 := HB.out.act.c1
                  have yz := HB.out.act.row.lt
                  obtain ⟨a0, c0, es, _, gst⟩ := HB.out.act.stw
                  obtain ⟨b0, o0, cur0, fr0, cs0, ea, hb0, hr0, ⟨aa, ca, ac, cc, ecs, _⟩, _⟩ := gst xn hxl
                  simp only [Value.slice.injEq, true_and] at es
                  obtain ⟨rfl, rfl⟩ := es
                  simp only [Option.some.injEq, Addr.mk.injEq, and_true] at ea
                  obtain ⟨rfl, rfl⟩ := ea
                  subst ecs
                  have s0 := hr0 0 _ rfl
                  rw [Nat.add_zero, ← HM.out] at s0
                  have sz := heap_lt hb0
                  clear hr0 hb0 gst
                  by_cases hlt : (i2 : Int) < (m : Int)
                  · have hll : l.length ≤ 30 := by have := HLl.out; omega
                    go_wp2_with fail
                    refine (pick_at _ rb a cap bs' p7 _ 5 rfl HB.out.act.rd (by omega) (by omega) hbl).mono ?_
                    rintro e w9 ⟨v9, rfl, hv9, hR, kb⟩
                    have HB1 := hide (HB.out.drawn hR kb)
                    clear hR kb s0 sz y1 yz
                    obtain ⟨bb, hbb⟩ : ∃ bb : Bool, ((v9 : Int) == 0) = bb := ⟨_, rfl⟩
                    go_wp2_with fail
                    refine (pick_at _ rb a cap bs' (p7 + 1) _ 3 rfl HB1.out.act.rd (by omega) (by omega) hbl).mono ?_
                    rintro e w10 ⟨v10, rfl, hv10, hR, kb⟩
                    have HB2 := hide (HB1.out.drawn hR kb)
                    clear hR kb HB1 HB
                    go_wp2_with fail
                    refine (dec_small _ v10 (by omega)).mono ?_
                    rintro e w11 ⟨t, rfl, ht, k11⟩
                    have HB3 := hide (HB2.out.kept k11)
                    clear k11 HB2
                    have k1 : Kept w11 (w11.alloc (.cells #[.bool bb, .string (⟨#[118]⟩ ++ t ++ ⟨#[40, 41]⟩)] 53)) := (Kept.refl _).alloc _
                    have HK1 := hide k1
                    have HOw := hide (HB3.out.kept k1).own
                    have hbz : W.heap.size ≤ (w11.alloc (.cells #[.bool bb, .string (⟨#[118]⟩ ++ t ++ ⟨#[40, 41]⟩)] 53)).heap.size := (HB3.out.kept k1).act.kb.size
                    have HNw : Hid (∀ j u, ([.bool bb, .string (⟨#[118]⟩ ++ t ++ ⟨#[40, 41]⟩)] : List Value)[j]? = some u → (w11.alloc (.cells #[.bool bb, .string (⟨#[118]⟩ ++ t ++ ⟨#[40, 41]⟩)] 53)).cell? ((⟨w11.heap.size, 0, none⟩ : Addr).add j) = some u) := fun j u hu => by rw [Addr.add_mid]; exact range_new w11 #[.bool bb, .string (⟨#[118]⟩ ++ t ++ ⟨#[40, 41]⟩)] 53 j u hu
                    have HOne : Hid (∀ u ∈ ([.bool bb, .string (⟨#[118]⟩ ++ t ++ ⟨#[40, 41]⟩)] : List Value), u.oneCell' = true) := fun u hu => by simp only [List.mem_cons, List.not_mem_nil, or_false] at hu; rcases hu with rfl | rfl <;> rfl
                    obtain ⟨ic, hc0, hc1, hc2, hc3⟩ := dInfo_parts Tryd.dInfoAns
                    clear k1
                    go_wp2_with (at_builtin; refine wpList_append_own _ rfl (.tmp 67) (.tmp 77) 26 rfl W.heap.size 53 ic _ 2 24 Tryd.underlying26 hc0 hc1 hc2 hc3 rfl (by decide) (.slice av l.length cv) l.length (dAnsCells l) rfl HOw.out ⟨w11.heap.size, 0, none⟩ 1 1 [.bool bb, .string (⟨#[118]⟩ ++ t ++ ⟨#[40, 41]⟩)] rfl rfl HNw.out HOne.out (by unfold maxLen; omega) (by omega) hbz ?_; intro v' w2 hown2 hgr _; have HP := hide (HB3.out.push (x := ⟨bb, ⟨#[118]⟩ ++ t ++ ⟨#[40, 41]⟩⟩) HK1.out hown2 hgr (by show (⟨#[118]⟩ ++ t ++ ⟨#[40, 41]⟩ : ByteArray).size ≤ 300; rw [ByteArray.size_append, ByteArray.size_append]; show 1 + t.size + 2 ≤ 300; omega)); obtain ⟨av2, cv2, rfl⟩ := own_slice hown2; clear hown2 hgr)
                    go_roundg (gk - 1)
                    case measure => omega
                    case rel => exact ⟨i2 + 1, p7 + 2, l ++ [⟨bb, ⟨#[118]⟩ ++ t ++ ⟨#[40, 41]⟩⟩], by go_num, by omega, by rw [List.length_append, HLl.out]; rfl, by omega, HP.out⟩
                  · go_wp2_with fail
                    go_meet
                    exact ⟨_, l, p7, rfl, by have := HLl.out; omega, by omega, HB.out⟩
            case rest =>
              clear HB y1 yz hbt hx1 hx2
              obtain ⟨u, l, p7, rfl, hll, hp7, hB⟩ := hcut
              have HB := hide hB
              clear hB
              obtain ⟨av, cv, rfl⟩ := own_slice HB.out.own
              go_wp2_with fail
              refine (pick_at _ rb a cap bs' p7 _ 16 rfl HB.out.act.rd (by omega) (by omega) hbl).mono ?_
              rintro e w9 ⟨v9, rfl, hv9, hR, kb⟩
              have HB1 := hide (HB.out.drawn hR kb)
              clear hR kb HB
              go_upto_if 81 with fail
              go_cut [9] from 81 to 85 (fun s9 wx => ∃ (av : Option Addr) (cv : Nat) (l : List AnswerD), s9 = .slice av l.length cv ∧ l.length ≤ 31 ∧ BSt W wx rb w1.heap.size a cap bs' (p7 + 1) cost (.slice sa L.length sc) L (.slice av l.length cv) l)
              case first =>
                by_cases h0 : v9 = 0
                · have e0 : ((v9 : Int) == 0) = true := by simp [h0]
                  clear h0
                  have k1 : Kept w9 (w9.alloc (.cells #[.bool false, .string ⟨#[]⟩] 53)) := (Kept.refl _).alloc _
                  have HK1 := hide k1
                  have HOw := hide (HB1.out.kept k1).own
                  have hbz : W.heap.size ≤ (w9.alloc (.cells #[.bool false, .string ⟨#[]⟩] 53)).heap.size := (HB1.out.kept k1).act.kb.size
                  have HNw : Hid (∀ j u, ([.bool false, .string ⟨#[]⟩] : List Value)[j]? = some u → (w9.alloc (.cells #[.bool false, .string ⟨#[]⟩] 53)).cell? ((⟨w9.heap.size, 0, none⟩ : Addr).add j) = some u) := fun j u hu => by rw [Addr.add_mid]; exact range_new w9 #[.bool false, .string ⟨#[]⟩] 53 j u hu
                  have HOne : Hid (∀ u ∈ ([.bool false, .string ⟨#[]⟩] : List Value), u.oneCell' = true) := fun u hu => by simp only [List.mem_cons, List.not_mem_nil, or_false] at hu; rcases hu with rfl | rfl <;> rfl
                  obtain ⟨ic, hc0, hc1, hc2, hc3⟩ := dInfo_parts Tryd.dInfoAns
                  clear k1
                  go_wp2_with (at_builtin; refine wpList_append_own _ rfl (.tmp 82) (.tmp 84) 26 rfl W.heap.size 53 ic _ 2 24 Tryd.underlying26 hc0 hc1 hc2 hc3 rfl (by decide) (.slice av l.length cv) l.length (dAnsCells l) rfl HOw.out ⟨w9.heap.size, 0, none⟩ 1 1 [.bool false, .string ⟨#[]⟩] rfl rfl HNw.out HOne.out (by unfold maxLen; omega) (by omega) hbz ?_; intro v' w2 hown2 hgr _; have HP := hide (HB1.out.push (x := ⟨false, ⟨#[]⟩⟩) HK1.out hown2 hgr (by show (⟨#[]⟩ : ByteArray).size ≤ 300; decide)); obtain ⟨av2, cv2, rfl⟩ := own_slice hown2; clear hown2 hgr)
                  go_meet
                  exact ⟨av2, cv2, l ++ [⟨false, ⟨#[]⟩⟩], by rw [List.length_append]; rfl, by rw [List.length_append]; show l.length + 1 ≤ 31; omega, by rw [List.length_append]; exact HP.out⟩
                · have e0 : ((v9 : Int) == 0) = false := by simpa using h0
                  clear h0
                  go_wp2_with fail
                  go_meet
                  exact ⟨av, cv, l, rfl, by omega, HB1.out⟩
              case rest =>
                clear HB1 hv9 hll
                obtain ⟨av, cv, l, rfl, hll, hB⟩ := hcut
                have HB := hide hB
                clear hB
                by_cases hl0 : (0 : Int) < l.length
                · have hl1 : 0 < l.length := by omega
                  obtain ⟨gb, cur, eav, hgb, hcz, hnc⟩ : ∃ gb cur, av = some ⟨gb, 0, none⟩ ∧ wc.heap[gb]? = some (Obj.cells cur 53 (0, 0)) ∧ cur.size = cv * 2 ∧ l.length ≤ cv := by
                    rcases HB.out.own.2 with ⟨e, _⟩ | ⟨g', cap', cur, e, hb, hg', hnc, _, hcz, _⟩
                    · simp only [Value.slice.injEq] at e; omega
                    · simp only [Value.slice.injEq, true_and] at e
                      obtain ⟨rfl, rfl⟩ := e
                      exact ⟨g', cur, rfl, hg', hcz, hnc⟩
                  subst eav
                  have HRow : Hid (RowT wc gb 53 (cv * 2)) := ⟨cur, hgb, hcz⟩
                  clear hgb hcz
                  go_wp2_with fail
                  refine (pick_at _ rb a cap bs' (p7 + 1) _ 16 rfl HB.out.act.rd (by omega) (by omega) hbl).mono ?_
                  rintro e w10 ⟨v10, rfl, hv10, hR, kb⟩
                  have HB2 := hide (HB.out.drawn hR kb)
                  have HRow2 := hide (HRow.out.sameT (kb.sameKind HB.out.act.rd) (by decide)).1
                  clear hR kb HRow HB
                  by_cases h10 : v10 = 0
                  · have e10 : ((v10 : Int) == 0) = true := by simp [h10]
                    clear h10
                    go_wp2_with fail
                    refine (pick_at _ rb a cap bs' (p7 + 2) _ 2 rfl HB2.out.act.rd (by omega) (by omega) hbl).mono ?_
                    rintro e w11 ⟨v11, rfl, hv11, hR, kb⟩
                    have HB3 := hide (HB2.out.drawn hR kb)
                    have HRow3 := hide (HRow2.out.sameT (kb.sameKind HB2.out.act.rd) (by decide)).1
                    clear hR kb HRow2 HB2
                    obtain ⟨⟨_, r0⟩, f0⟩ := HRow3.out.row.at (i := 1) (by omega)
                    have rz := HRow3.out.lt
                    go_wp2_with fail
                    refine (many_at _ ⟨#[116]⟩ _ (200 + v11) (by push_cast; rfl) (by omega) (by decide)).mono ?_
                    rintro e w12 ⟨⟨x, rfl, hx⟩, hw12⟩
                    have hx' : x.size ≤ 300 := by have e1 : (⟨#[116]⟩ : ByteArray).size = 1 := rfl; rw [e1] at hx; omega
                    rw [hw12]
                    clear hw12 w12 hx
                    have HC := hide (HB3.out.first hl1 hx')
                    have HRs := hide (HRes.out.but HC.out.act.kb (by omega))
                    have o0 := HC.out.act.c0
                    have o1 := HC.out.act.c1
                    have oz := HC.out.act.row.lt
                    obtain ⟨⟨_, x0⟩, g0⟩ := HRs.out.row.at (i := 0) (by omega)
                    obtain ⟨⟨_, x1⟩, g1⟩ := HRs.out.row.at (i := 1) (by omega)
                    have xz := HRs.out.lt
                    go_wp2_with fail
                    have hR := World.rangeAt_setCells_same (w11.setCell ⟨gb, 1, none⟩ (.string x)) w.heap.size 0 [.int .i64 cost, .slice sa L.length sc] (HRs.out.row.there (o := 0) (m := 2) (Nat.le_refl _))
                    exact bodyPost_ret_cell3 [.int .i64 cost, .slice sa L.length sc] _ _ _ Tryd.results5 rfl rfl rfl hR Tryd.underlying25 rfl Tryd.dSizeAction rfl (HC.out.ends HK0.out (by omega) HRs.out (Nat.le_refl _) rfl (by omega) (by rw [List.length_set]; omega))
                  · have e10 : ((v10 : Int) == 0) = false := by simpa using h10
                    clear h10
                    have HC := hide HB2.out.read
                    have HRs := hide (HRes.out.but HC.out.act.kb (by omega))
                    have o0 := HC.out.act.c0
                    have o1 := HC.out.act.c1
                    have oz := HC.out.act.row.lt
                    obtain ⟨⟨_, x0⟩, g0⟩ := HRs.out.row.at (i := 0) (by omega)
                    obtain ⟨⟨_, x1⟩, g1⟩ := HRs.out.row.at (i := 1) (by omega)
                    have xz := HRs.out.lt
                    go_wp2_with fail
                    have hR := World.rangeAt_setCells_same w10 w.heap.size 0 [.int .i64 cost, .slice sa L.length sc] (HRs.out.row.there (o := 0) (m := 2) (Nat.le_refl _))
                    exact bodyPost_ret_cell3 [.int .i64 cost, .slice sa L.length sc] _ _ _ Tryd.results5 rfl rfl rfl hR Tryd.underlying25 rfl Tryd.dSizeAction rfl (HC.out.ends HK0.out (by omega) HRs.out (Nat.le_refl _) rfl (by omega) (by omega))
                · have HC := hide HB.out.read
                  have HRs := hide (HRes.out.but HC.out.act.kb (by omega))
                  have o0 := HC.out.act.c0
                  have o1 := HC.out.act.c1
                  have oz := HC.out.act.row.lt
                  obtain ⟨⟨_, x0⟩, g0⟩ := HRs.out.row.at (i := 0) (by omega)
                  obtain ⟨⟨_, x1⟩, g1⟩ := HRs.out.row.at (i := 1) (by omega)
                  have xz := HRs.out.lt
                  go_wp2_with fail
                  have hR := World.rangeAt_setCells_same wc w.heap.size 0 [.int .i64 cost, .slice sa L.length sc] (HRs.out.row.there (o := 0) (m := 2) (Nat.le_refl _))
                  exact bodyPost_ret_cell3 [.int .i64 cost, .slice sa L.length sc] _ _ _ Tryd.results5 rfl rfl rfl hR Tryd.underlying25 rfl Tryd.dSizeAction rfl (HC.out.ends HK0.out (by omega) HRs.out (Nat.le_refl _) rfl (by omega) (by omega))

end Go.Proofs.YtlllckfifkgcnaaDoor
