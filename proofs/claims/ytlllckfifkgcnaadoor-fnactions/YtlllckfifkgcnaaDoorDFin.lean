import Derived.Test.YtlllckfifkgcnaaDoorDLit

/-
  THE WALK over spec.DrawFinish.
-/
namespace Go.Proofs.YtlllckfifkgcnaaDoor
open Go.RowKit

/-- A list of strings that grows; W is the world behind l1Open. -/
structure OSt (W wr : World) (rb : Nat) (a : Option Addr) (cap : Nat) (bs : List UInt8) (p : Nat) (v : Value) (l : List ByteArray) : Prop where
  rd : Rd wr rb a cap bs p
  rd0 : ∃ p0, Rd W rb a cap bs p0
  kb : KeptBut rb (rb + 1) W wr
  own : wr.ownsRow W.heap.size 9 1 v l.length (l.map Value.string)
  sz : ∀ x ∈ l, x.size ≤ 300
section
variable {W wr w' : World} {rb : Nat} {a : Option Addr} {cap : Nat} {bs : List UInt8} {p p' : Nat} {v : Value} {l : List ByteArray}
theorem OSt.drawn (h : OSt W wr rb a cap bs p v l) (hR : Rd w' rb a cap bs p') (k : KeptBut rb (rb + 1) wr w') : OSt W w' rb a cap bs p' v l :=
  ⟨hR, h.rd0, h.kb.trans k, owns_kept h.own (k.sameKind h.rd) (by decide), h.sz⟩
theorem OSt.kept (h : OSt W wr rb a cap bs p v l) (k : Kept wr w') : OSt W w' rb a cap bs p v l := h.drawn (h.rd.kept k) (.of_kept k)
theorem OSt.push {w1 w2 : World} {v' : Value} {x : ByteArray} (h : OSt W wr rb a cap bs p v l) (k1 : Kept wr w1) (hown : w2.ownsRow W.heap.size 9 1 v' (l.length + 1) (l.map Value.string ++ [.string x])) (hg : w1.grownBy w2 v.ownBlock) (hx : x.size ≤ 300) : OSt W w2 rb a cap bs p v' (l ++ [x]) := by
  have h1 := h.kept k1
  have hbl : Below W.heap.size w1 w2 := (Below.refl _ _).grown hg h1.kb.size (fun k hk => (h1.own.lt k hk).1)
  obtain ⟨p0, h0⟩ := h.rd0
  refine ⟨h1.rd.below h0 hbl h1.kb.size, h.rd0, h1.kb.below hbl, by simpa using hown, fun y hy => ?_⟩
  simp only [List.mem_append, List.mem_singleton] at hy
  rcases hy with hy | rfl
  · exact h.sz y hy
  · exact hx
theorem OSt.made {p0 : Nat} (h0 : Rd W rb a cap bs p0) (h : Rd wr rb a cap bs p) (k : KeptBut rb (rb + 1) W wr) : OSt W (wr.alloc (.cells #[] 9)) rb a cap bs p (.slice (some ⟨wr.heap.size, 0, none⟩) 0 0) [] := by
  have kk : Kept wr (wr.alloc (.cells #[] 9)) := (Kept.refl _).alloc _
  exact ⟨h.kept kk, ⟨p0, h0⟩, k.and_kept kk, owns_base (World.ownsRow_made wr #[] 0 (Nat.le_refl _) (Nat.zero_le _) rfl) k.size, fun x hx => by simp at hx⟩
end

/-- Strings that can be read, the reader beside them. -/
structure RSt (W wr : World) (rb : Nat) (a : Option Addr) (cap : Nat) (bs : List UInt8) (p : Nat) (v : Value) (l : List ByteArray) : Prop where
  rd : Rd wr rb a cap bs p
  kb : KeptBut rb (rb + 1) W wr
  strs : ∃ sa c, v = .slice sa l.length c ∧ l.length ≤ c ∧ TStrs wr 9 sa l
  sz : ∀ x ∈ l, x.size ≤ 300
section
variable {W wr w' : World} {rb : Nat} {a : Option Addr} {cap : Nat} {bs : List UInt8} {p p' : Nat} {v : Value} {l : List ByteArray}
theorem OSt.read (h : OSt W wr rb a cap bs p v l) : RSt W wr rb a cap bs p v l := ⟨h.rd, h.kb, d_tstrs_of_owned h.own, h.sz⟩
theorem RSt.drawn (h : RSt W wr rb a cap bs p v l) (hR : Rd w' rb a cap bs p') (k : KeptBut rb (rb + 1) wr w') : RSt W w' rb a cap bs p' v l := by
  obtain ⟨sa, c, e, hc, hT⟩ := h.strs
  exact ⟨hR, h.kb.trans k, ⟨sa, c, e, hc, hT.same (k.sameKind h.rd) (by decide)⟩, h.sz⟩
/-- The first one is written. -/
theorem OSt.first {g n c : Nat} {x : ByteArray} (h : OSt W wr rb a cap bs p (.slice (some ⟨g, 0, none⟩) n c) l) (hl : 0 < l.length) (hx : x.size ≤ 300) : RSt W (wr.setCell ⟨g, 0, none⟩ (.string x)) rb a cap bs p (.slice (some ⟨g, 0, none⟩) n c) (l.set 0 x) := by
  obtain ⟨sa, c', e, hc, hT⟩ := d_tstrs_of_owned h.own
  simp only [Value.slice.injEq] at e
  obtain ⟨rfl, rfl, rfl⟩ := e
  rcases h.own.2 with ⟨e, _⟩ | ⟨g', cap', cur, e, hb, hg, hnc, _, hcz, _⟩
  · simp at e
  simp only [Value.slice.injEq, Option.some.injEq, Addr.mk.injEq, and_true, true_and] at e
  obtain ⟨rfl, rfl⟩ := e
  have hrow : RowT wr g 9 (c * 1) := ⟨cur, hg, hcz⟩
  have hbl : Below W.heap.size wr (wr.setCell ⟨g, 0, none⟩ (.string x)) := (Below.refl _ _).setCell hb _
  obtain ⟨p0, h0⟩ := h.rd0
  obtain ⟨cur2, hg2, _⟩ := hrow.set (o := 0) (.string x)
  refine ⟨h.rd.below h0 hbl h.kb.size, h.kb.below hbl, ⟨_, c, by rw [List.length_set], by rw [List.length_set]; exact hc, .inr ⟨g, cur2, _, rfl, hg2, fun i hi => ?_⟩⟩, fun y hy => ?_⟩
  · rw [List.length_set] at hi
    by_cases e0 : i = 0
    · subst e0
      rw [set_hit hrow.row (by omega)]
      simp [List.getD, hl]
    · rw [set_miss (by omega)]
      rcases hT with hT | ⟨b, cur3, fr, eb, hb3, hc3⟩
      · rw [hT] at hl; simp at hl
      · simp only [Option.some.injEq, Addr.mk.injEq, and_true] at eb
        subst eb
        rw [hc3 i hi]
        simp [List.getD, Ne.symm e0]
  · rcases List.mem_or_eq_of_mem_set hy with h1 | rfl
    · exact h.sz y h1
    · exact hx
theorem TStrs.take {w : World} {t : TypeId} {sa : Option Addr} {l : List ByteArray} (h : TStrs w t sa l) (n : Nat) : TStrs w t sa (l.take n) := by
  rcases h with rfl | ⟨b, cur, fr, e, hb, hc⟩
  · exact .inl (by simp)
  · refine .inr ⟨b, cur, fr, e, hb, fun i hi => ?_⟩
    rw [List.length_take] at hi
    rw [hc i (by omega)]
    simp [List.getD, (by omega : i < n)]
end

/-- What DrawFinish gives. -/
def DrewFin (w w' : World) (e : Ending) : Prop :=
  ∃ (g : ByteArray) (sa : Option Addr) (c : Nat) (l : List ByteArray), e = .returned (.tuple #[.string g, .slice sa l.length c]) ∧ g.size ≤ 300 ∧ l.length ≤ 101 ∧ l.length ≤ c ∧ (∀ x ∈ l, x.size ≤ 300) ∧ Strs w' sa l ∧ Kept w w'
theorem kept_of_but {w W w' : World} {rb : Nat} (k : Kept w W) (hb : w.heap.size ≤ rb) (h : KeptBut rb (rb + 1) W w') : Kept w w' :=
  ⟨h.os.trans k.os, h.tape.trans k.tape, h.output.trans k.output, Nat.le_trans k.size h.size, fun i hi => (h.block i (Nat.lt_of_lt_of_le hi k.size) (.inl (by omega))).trans (k.block i hi)⟩

set_option maxRecDepth 100000 in
set_option maxHeartbeats 3200000 in
theorem drawFinish_any (w : World) (a : Option Addr) (cap : Nat) (bs : List UInt8) (hB : BytesAt w a bs) (hcap : bs.length ≤ cap) (hlen : bs.length ≤ 100000000) :
    Calls Tryd.prog 8 #[.slice a bs.length cap] w fun e w' => DrewFin w w' e := by
  go_enter Tryd.func8, Tryd.ntmps8
  go_wp2_with fail
  refine (open_any _ a cap bs hB hcap hlen).mono ?_
  rintro e W ⟨rb, rfl, hrb, hR0, k0⟩
  obtain ⟨bs', hbs'⟩ : ∃ bs', bs' = bs.take 2000 := ⟨_, rfl⟩
  have hbl : bs'.length ≤ 2000 := by rw [hbs', List.length_take]; omega
  rw [← hbs'] at hR0
  have HR0 := hide hR0
  have HK0 := hide k0
  clear hR0 k0 hbs' hB hcap hlen
  go_wp2_with fail
  refine (give_any _ rb a cap bs' 0 HR0.out (by omega) hbl).mono ?_
  rintro e w1 ⟨gv, p1, rfl, hgv, hp1, hp1', hR1, kb1⟩
  have HO := hide (OSt.made HR0.out hR1 kb1)
  clear hR1 kb1
  go_wp2_with fail
  refine (pick_at _ rb a cap bs' p1 _ 6 rfl HO.out.rd (by omega) (by omega) hbl).mono ?_
  rintro e w2 ⟨n0, rfl, hn0, hR2, kb2⟩
  have HO2 := hide (HO.out.drawn hR2 kb2)
  clear hR2 kb2 HO
  go_wp2_with fail
  refine (pick_at _ rb a cap bs' (p1 + 1) _ 12 rfl HO2.out.rd (by omega) (by omega) hbl).mono ?_
  rintro e w3 ⟨v3, rfl, hv3, hR3, kb3⟩
  have HO3 := hide (HO2.out.drawn hR3 kb3)
  clear hR3 kb3 HO2
  go_upto_if 18 with fail
  go_cut [7] from 18 to 21 (fun s7 wx => ∃ (n p' : Nat), s7 = .int .i64 (n : Int) ∧ n ≤ 101 ∧ p' ≤ p1 + 3 ∧ OSt W wx rb a cap bs' p' (.slice (some ⟨w1.heap.size, 0, none⟩) 0 0) [])
  case first =>
    by_cases h0 : v3 = 0
    · have e0 : ((v3 : Int) == 0) = true := by simp [h0]
      clear h0
      go_wp2_with fail
      refine (pick_at _ rb a cap bs' (p1 + 2) _ 2 rfl HO3.out.rd (by omega) (by omega) hbl).mono ?_
      rintro e w4 ⟨v4, rfl, hv4, hR4, kb4⟩
      have HO4 := hide (HO3.out.drawn hR4 kb4)
      clear hR4 kb4
      go_wp2_with fail
      go_meet
      exact ⟨100 + v4, p1 + 3, by go_num, by omega, by omega, HO4.out⟩
    · have e0 : ((v3 : Int) == 0) = false := by simpa using h0
      clear h0
      go_wp2_with fail
      go_meet
      exact ⟨n0, p1 + 2, rfl, by omega, by omega, HO3.out⟩
  case rest =>
    obtain ⟨n, p4, rfl, hn, hp4, hO⟩ := hcut
    have HO4 := hide hO
    clear hO HO3 hv3 hn0
    go_wp2
    go_loopg [6, 8] n (fun gg x6 x8 wr => ∃ (i p' : Nat) (l : List ByteArray), x8 = .int .i64 (i : Int) ∧ i + gg = n ∧ l.length = i ∧ p' ≤ p4 + i ∧ OSt W wr rb a cap bs' p' x6 l)
    case atStart => exact ⟨0, p4, [], rfl, by omega, rfl, by omega, HO4.out⟩
    case round =>
      clear HO4
      obtain ⟨i, p5, l, rfl, hi, hll, hp5, hO⟩ := hrel
      have HO := hide hO
      have HLl := hide hll
      clear hO hll
      obtain ⟨av, cv, rfl⟩ := own_slice HO.out.own
      by_cases hlt : (i : Int) < (n : Int)
      · have hll : l.length ≤ 101 := by have := HLl.out; omega
        go_wp2_with fail
        refine (many_at _ ⟨#[116]⟩ _ 60 rfl (by omega) (by decide)).mono ?_
        rintro e w6 ⟨⟨x, rfl, hx⟩, hw6⟩
        have hx' : x.size ≤ 300 := by have e1 : (⟨#[116]⟩ : ByteArray).size = 1 := rfl; rw [e1] at hx; omega
        rw [hw6]
        clear hw6 w6 hx
        have K3 : Kept wr (wr.alloc (.cells #[.string ⟨#[]⟩, .string ⟨#[118, 49, 40, 41]⟩, .string x] 9)) := (Kept.refl _).alloc _
        have HO1 := hide (HO.out.kept K3)
        clear K3
        go_wp2_with fail
        refine (pick_at _ rb a cap bs' p5 _ 3 rfl HO1.out.rd (by omega) (by omega) hbl).mono ?_
        rintro e w7 ⟨q, rfl, hq, hR7, kb7⟩
        have HO2 := hide (HO1.out.drawn hR7 kb7)
        obtain ⟨c, hc, hcz⟩ := lit_str [⟨#[]⟩, ⟨#[118, 49, 40, 41]⟩, x] kb7 HO.out.rd.row.lt q (by show q < 3; omega) (by
          intro c hc
          simp only [List.mem_cons, List.not_mem_nil, or_false] at hc
          rcases hc with rfl | rfl | rfl <;> first | exact hx' | decide)
        have lz : wr.heap.size < w7.heap.size := Nat.lt_of_lt_of_le (by simp) kb7.size
        have hq3 : (q : Int) < 3 := by omega
        have k1 : Kept w7 (w7.alloc (.cells #[.string c] 9)) := (Kept.refl _).alloc _
        have HK1 := hide k1
        have HOw := hide (HO2.out.kept k1).own
        have hbz : W.heap.size ≤ (w7.alloc (.cells #[.string c] 9)).heap.size := (HO2.out.kept k1).kb.size
        obtain ⟨ia, ha0, ha1, ha2, ha3⟩ := dInfo_parts Tryd.dInfoStr
        clear hR7 kb7 HO1 k1
        go_wp2_with (at_builtin; refine wpList_append_own _ rfl (.tmp 27) (.tmp 34) 32 rfl W.heap.size 9 ia _ 1 16 Tryd.underlying32 ha0 ha1 ha2 ha3 rfl (by decide) (.slice av l.length cv) l.length (l.map Value.string) rfl HOw.out ⟨w7.heap.size, 0, none⟩ 1 1 [.string c] rfl rfl (boxStr w7 c) (oneStr c) (by unfold maxLen; omega) (by omega) hbz ?_; intro v' w2 hown2 hgr _; have HP := hide (HO2.out.push HK1.out hown2 hgr hcz); obtain ⟨av2, cv2, rfl⟩ := own_slice hown2; clear hown2 hgr)
        go_roundg (gk - 1)
        case measure => omega
        case rel => exact ⟨i + 1, p5 + 1, l ++ [c], by go_num, by omega, by rw [List.length_append, HLl.out]; rfl, by omega, HP.out⟩
      · have hll : l.length ≤ 101 := by have := HLl.out; omega
        go_wp2_with fail
        refine (pick_at _ rb a cap bs' p5 _ 10 rfl HO.out.rd (by omega) (by omega) hbl).mono ?_
        rintro e w8 ⟨v8, rfl, hv8, hR8, kb8⟩
        have HO8 := hide (HO.out.drawn hR8 kb8)
        clear hR8 kb8 HO
        go_upto_if 38 with fail
        go_cut [5] from 38 to 42 (fun s5 wx => ∃ (g : ByteArray) (p' : Nat), s5 = .string g ∧ g.size ≤ 31 ∧ p' ≤ p5 + 2 ∧ OSt W wx rb a cap bs' p' (.slice av l.length cv) l)
        case first =>
          by_cases h0 : v8 = 0
          · have e0 : ((v8 : Int) == 0) = true := by simp [h0]
            clear h0
            go_wp2_with fail
            refine (pick_at _ rb a cap bs' (p5 + 1) _ 2 rfl HO8.out.rd (by omega) (by omega) hbl).mono ?_
            rintro e w9 ⟨v9, rfl, hv9, hR9, kb9⟩
            have HO9 := hide (HO8.out.drawn hR9 kb9)
            clear hR9 kb9
            go_wp2_with fail
            refine (many_at _ ⟨#[103]⟩ _ (30 + v9) (by push_cast; rfl) (by omega) (by decide)).mono ?_
            rintro e w6 ⟨⟨x, rfl, hx⟩, rfl⟩
            have hx' : x.size ≤ 31 := by have e1 : (⟨#[103]⟩ : ByteArray).size = 1 := rfl; rw [e1] at hx; omega
            go_wp2_with fail
            go_meet
            exact ⟨x, p5 + 2, rfl, hx', by omega, HO9.out⟩
          · have e0 : ((v8 : Int) == 0) = false := by simpa using h0
            clear h0
            go_wp2_with fail
            go_meet
            exact ⟨gv, p5 + 1, rfl, hgv, by omega, HO8.out⟩
        case rest =>
          clear HO8 hgv hv8
          obtain ⟨g, p6, rfl, hg, hp6, hO⟩ := hcut
          have HO := hide hO
          clear hO
          by_cases hl0 : (0 : Int) < l.length
          · have hl1 : 0 < l.length := by omega
            obtain ⟨gb, cur, eav, hgb, hcz, hnc⟩ : ∃ gb cur, av = some ⟨gb, 0, none⟩ ∧ wc.heap[gb]? = some (Obj.cells cur 9 (0, 0)) ∧ cur.size = cv * 1 ∧ l.length ≤ cv := by
              rcases HO.out.own.2 with ⟨e, _⟩ | ⟨g', cap', cur, e, hb, hg', hnc, _, hcz, _⟩
              · simp only [Value.slice.injEq] at e; omega
              · simp only [Value.slice.injEq, true_and] at e
                obtain ⟨rfl, rfl⟩ := e
                exact ⟨g', cur, rfl, hg', hcz, hnc⟩
            subst eav
            have HRow : Hid (RowT wc gb 9 (cv * 1)) := ⟨cur, hgb, hcz⟩
            clear hgb hcz
            go_wp2_with fail
            refine (pick_at _ rb a cap bs' p6 _ 6 rfl HO.out.rd (by omega) (by omega) hbl).mono ?_
            rintro e w9 ⟨v9, rfl, hv9, hR9, kb9⟩
            have HO9 := hide (HO.out.drawn hR9 kb9)
            have HRow9 := hide (HRow.out.sameT (kb9.sameKind HO.out.rd) (by decide)).1
            clear hR9 kb9 HO HRow
            by_cases h9 : v9 = 0
            · have e9 : ((v9 : Int) == 0) = true := by simp [h9]
              clear h9
              have K1 : Kept w9 (w9.alloc (.cells #[.int .i64 (199 - (g.size : Int)), .int .i64 (198 - (g.size : Int)), .int .i64 200, .int .i64 201] 3)) := (Kept.refl _).alloc _
              have HO10 := hide (HO9.out.kept K1)
              have HRow10 := hide (HRow9.out.kept K1)
              clear K1
              go_wp2_with fail
              refine (pick_at _ rb a cap bs' (p6 + 1) _ 4 rfl HO10.out.rd (by omega) (by omega) hbl).mono ?_
              rintro e w10 ⟨q, rfl, hq, hR10, kb10⟩
              have HO11 := hide (HO10.out.drawn hR10 kb10)
              have HRow11 := hide (HRow10.out.sameT (kb10.sameKind HO10.out.rd) (by decide)).1
              obtain ⟨c, hcm, hc⟩ := lit_mem [199 - (g.size : Int), 198 - (g.size : Int), 200, 201] kb10 HO9.out.rd.row.lt q (by show q < 4; omega)
              have hc0 : 0 ≤ c ∧ c ≤ 201 := by simp at hcm; omega
              obtain ⟨m, rfl⟩ : ∃ m : Nat, c = (m : Int) := ⟨c.toNat, by omega⟩
              have lz : w9.heap.size < w10.heap.size := Nat.lt_of_lt_of_le (by simp) kb10.size
              have hq4 : (q : Int) < 4 := by omega
              clear hcm hR10 kb10 HO10 HRow10 HO9 HRow9
              obtain ⟨⟨_, r0⟩, f0⟩ := HRow11.out.row.at (i := 0) (by omega)
              have rz := HRow11.out.lt
              go_wp2_with fail
              refine (many_at _ ⟨#[116]⟩ _ m rfl (by omega) (by decide)).mono ?_
              rintro e w6 ⟨⟨x, rfl, hx⟩, hw6⟩
              have hx' : x.size ≤ 300 := by have e1 : (⟨#[116]⟩ : ByteArray).size = 1 := rfl; rw [e1] at hx; omega
              rw [hw6]
              clear hw6 w6 hx
              have HR := hide (HO11.out.first hl1 hx')
              go_wp2_with fail
              refine (pick_at _ rb a cap bs' (p6 + 2) _ 2 rfl HR.out.rd (by omega) (by omega) hbl).mono ?_
              rintro e w12 ⟨v12, rfl, hv12, hR12, kb12⟩
              have HR2 := hide (HR.out.drawn hR12 kb12)
              clear hR12 kb12 HR
              have HKf := hide (kept_of_but HK0.out hrb HR2.out.kb)
              obtain ⟨sa, c2, ev, hc2, hT⟩ := HR2.out.strs
              simp only [Value.slice.injEq] at ev
              obtain ⟨rfl, hev, rfl⟩ := ev
              have HT := hide hT
              clear hT hev
              by_cases h12 : v12 = 0
              · have e12 : ((v12 : Int) == 0) = true := by simp [h12]
                clear h12
                have hcv : (1 : Int) ≤ (cv : Int) := by omega
                go_wp2_with fail
                go_ret2
                have hl2 : ((l.set 0 x).take 1).length = 1 := by rw [List.length_take, List.length_set]; omega
                exact ⟨g, some ⟨gb, 0, none⟩, cv, (l.set 0 x).take 1, by (rw [hl2]; rfl), by omega, by omega, by omega, fun y hy => HR2.out.sz y (List.mem_of_mem_take hy), (HT.out.take 1).strs, HKf.out⟩
              · have e12 : ((v12 : Int) == 0) = false := by simpa using h12
                clear h12
                go_wp2_with fail
                go_ret2
                exact ⟨g, some ⟨gb, 0, none⟩, cv, l.set 0 x, by (rw [List.length_set]; rfl), by omega, by rw [List.length_set]; omega, hc2, HR2.out.sz, HT.out.strs, HKf.out⟩
            · have e9 : ((v9 : Int) == 0) = false := by simpa using h9
              clear h9
              have HKf := hide (kept_of_but HK0.out hrb HO9.out.kb)
              go_wp2_with fail
              go_ret2
              exact ⟨g, some ⟨gb, 0, none⟩, cv, l, rfl, by omega, hll, hnc, HO9.out.sz, (TStrs.strs (by obtain ⟨_, _, ev, _, hT⟩ := HO9.out.read.strs; simp only [Value.slice.injEq] at ev; obtain ⟨rfl, _, rfl⟩ := ev; exact hT)), HKf.out⟩
          · have hl1 : l = [] := List.eq_nil_of_length_eq_zero (by omega)
            have HKf := hide (kept_of_but HK0.out hrb HO.out.kb)
            have HL1 := hide hl1
            clear hl1
            go_wp2_with fail
            go_ret2
            exact ⟨g, av, cv, l, rfl, by omega, hll, (by rw [HL1.out]; exact Nat.zero_le _), HO.out.sz, (by rw [HL1.out]; intro i hi; simp at hi), HKf.out⟩

end Go.Proofs.YtlllckfifkgcnaaDoor
