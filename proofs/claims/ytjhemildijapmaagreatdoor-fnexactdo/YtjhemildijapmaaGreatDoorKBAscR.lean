import Derived.Test.YtjhemildijapmaaGreatDoorKBAsk
import Derived.Test.YtjhemildijapmaaGreatDoorKXPut0
import Derived.Test.YtjhemildijapmaaGreatDoorKSRoots
import Derived.Test.YtjhemildijapmaaGreatDoorKXValid0
import Derived.Test.YtjhemildijapmaaGreatDoorKWCheck5
import Derived.Test.YtjhemildijapmaaGreatDoorKWCheck4
import Derived.Deep.RegionHeld
namespace Go.Proofs.YtjhemildijapmaaGreatDoor
open Go.RowKit
def GoodsI (xs : List AnswerD) (w' : World) (e : Ending) : Prop := ∃ (a : Option Addr) (c : Nat), e = .returned (.slice a (goodOf xs).length c) ∧ Strs w' a (goodOf xs)
set_option maxRecDepth 100000 in
set_option maxHeartbeats 3200000 in
theorem goodTexts_any (w : World) (d : Option Addr) (dc : Nat) (xs : List AnswerD) (hxl : xs.length ≤ 1000) (hS : Answers w d xs) :
    Calls Tryz.prog 98 #[.slice d xs.length dc] w fun e w' => GoodsI xs w' e ∧ Kept w w' := by
  obtain ⟨ic, hc0, hc1, hc2, hc3⟩ := xInfo_parts Tryz.xInfoStr
  go_enter Tryz.func98, Tryz.ntmps98
  go_wp2
  go_loopg [3, 8] xs.length (fun gg x3 x8 wr => ∃ (i : Nat) (av : Option Addr) (cv : Nat), x3 = .slice av (goodOf (xs.take i)).length cv ∧ x8 = .int .i64 (i : Int) ∧ i + gg = xs.length ∧ (goodOf (xs.take i)).length ≤ i ∧ Kept w wr ∧ Hid (wr.ownsRow w.heap.size 9 1 (.slice av (goodOf (xs.take i)).length cv) (goodOf (xs.take i)).length ((goodOf (xs.take i)).map Value.string)))
  case atStart => exact ⟨0, none, 0, rfl, rfl, by omega, Nat.le_refl _, Kept.refl _, World.ownsRow_nil _ _ _ _⟩
  case round =>
    obtain ⟨i, av, cv, rfl, rfl, hi, hnl, Kr, HO⟩ := hrel
    by_cases hlt : (i : Int) < (xs.length : Int)
    · have hil : i < xs.length := by omega
      obtain ⟨b, o, rfl, hb, hc⟩ := (hS.kept Kr) i hil
      obtain ⟨x, hx⟩ : ∃ x, x = xs.getD i AnswerD.zero := ⟨_, rfl⟩
      rw [← hx] at hc
      have t0 := hc 0 _ rfl
      have t1 := hc 1 _ rfl
      rw [Nat.add_zero] at t0
      have HT : Hid (xs.take (i + 1) = xs.take i ++ [x]) := by show _ = _; rw [List.take_succ_eq_append_getElem hil, hx]; simp [List.getD, hil]
      obtain ⟨ns, hns⟩ : ∃ ns, ns = goodOf (xs.take i) := ⟨_, rfl⟩
      rw [← hns] at hnl HO ⊢
      have HNs := hide hns
      clear hc hx hns
      obtain ⟨W2, hW2⟩ : ∃ W2, W2 = wr.alloc (.cells #[.bool x.fail, .string x.text] 151) := ⟨_, rfl⟩
      have K2 : Kept wr W2 := by rw [hW2]; exact (Kept.refl _).alloc _
      have q0 : W2.cell? ⟨wr.heap.size, 0, none⟩ = some (.bool x.fail) := by rw [hW2]; exact range_new wr #[.bool x.fail, .string x.text] 151 0 _ rfl
      have q1 : W2.cell? ⟨wr.heap.size, 1, none⟩ = some (.string x.text) := by rw [hW2]; exact range_new wr #[.bool x.fail, .string x.text] 151 1 _ rfl
      have qz : wr.heap.size < W2.heap.size := by rw [hW2]; simp
      go_upto_region 5 with fail
      rw [← hW2]
      clear hW2
      obtain ⟨fb, hfb⟩ : ∃ fb, fb = wr.heap.size := ⟨_, rfl⟩
      rw [← hfb] at q0 q1 qz ⊢
      clear hfb
      have HO2 := hide (ownsRow_kept' HO.out K2)
      have KW2 := Kr.trans K2
      cases hf : x.fail
      · rw [hf] at q0
        have k1 : Kept W2 (W2.alloc (.cells #[.string x.text] 9)) := (Kept.refl _).alloc _
        have HOw := hide (ownsRow_kept' HO2.out k1)
        have KK := hide (KW2.trans k1)
        have hbz : w.heap.size ≤ (W2.alloc (.cells #[.string x.text] 9)).heap.size := KK.out.size
        have HNw : Hid (∀ j u, ([.string x.text] : List Value)[j]? = some u → (W2.alloc (.cells #[.string x.text] 9)).cell? ((⟨W2.heap.size, 0, none⟩ : Addr).add j) = some u) := fun j u hu => by rw [Addr.add_mid]; exact range_new W2 #[.string x.text] 9 j u hu
        have HOne : Hid (∀ u ∈ ([.string x.text] : List Value), u.oneCell' = true) := fun u hu => by simp only [List.mem_cons, List.not_mem_nil, or_false] at hu; subst hu; rfl
        clear k1
        go_wp2_with (at_builtin; refine wpList_append_own _ rfl (.tmp 15) (.tmp 18) 25 rfl w.heap.size 9 ic _ 1 16 Tryz.underlying25 hc0 hc1 hc2 hc3 rfl (by decide) (.slice av ns.length cv) ns.length (ns.map Value.string) rfl HOw.out ⟨W2.heap.size, 0, none⟩ 1 1 [.string x.text] rfl rfl HNw.out HOne.out (by unfold maxLen; omega) (by omega) hbz ?_; intro v' w6 hown2 hgr _; have KP := kept_of_grown KK.out (Nat.le_refl _) HOw.out hgr; have HP := hide hown2; obtain ⟨av2, cv2, rfl⟩ := own_slice hown2; clear hown2 hgr)
        go_roundg (gk - 1)
        case measure => omega
        case rel =>
          have e : goodOf (xs.take (i + 1)) = ns ++ [x.text] := by rw [HT.out, goodOf_snoc, ← HNs.out, hf]; rfl
          exact ⟨i + 1, av2, cv2, by rw [e, List.length_append]; rfl, by go_num, by omega, by rw [e, List.length_append]; show ns.length + 1 ≤ i + 1; omega, KP, hide (by rw [e, List.map_append, List.length_append]; exact HP.out)⟩
      · rw [hf] at q0
        go_wp2
        go_roundg (gk - 1)
        case measure => omega
        case rel =>
          have e : goodOf (xs.take (i + 1)) = ns := by rw [HT.out, goodOf_snoc, ← HNs.out, hf]; simp
          exact ⟨i + 1, av, cv, by rw [e], by go_num, by omega, by rw [e]; omega, KW2, hide (by rw [e]; exact HO2.out)⟩
    · have hie : i = xs.length := by omega
      obtain ⟨a9, c9, e9, h9⟩ := owned_strs HO.out
      simp only [Value.slice.injEq, true_and] at e9
      rw [← e9.1] at h9
      have H9 := hide h9
      clear h9 e9
      go_wp2_with fail
      go_ret
      rw [hie, List.take_length] at H9
      exact ⟨⟨av, cv, rfl, H9.out⟩, Kr⟩
section
variable {G : Ghost} {webl : List NodeD} {wz w w' : World} {bb : Nat} {a : Option Addr} {cap : Nat} {rd : Option Addr} {rn rc : Nat} {mb mx : Nat} {ts : List TaskM} {d : Option Addr} {dc : Nat} {f : ByteArray → Value} {ws : ByteArray → List Nat}
theorem BM.texts (h : BM G webl wz w bb a cap rd rn rc mb mx ts d dc f ws) {i : Nat} {t : TaskM} (hi : ts[i]? = some t) {w1 : World} {v' : Value} {l : List ByteArray} (ho : w1.ownsRow wz.heap.size 9 1 v' (t.r.texts.length + l.length) (t.r.texts.map Value.string ++ l.map Value.string)) (hg : w.grownBy w1 t.tv.ownBlock) (hv : ∀ g, v'.ownBlock = some g → t.tv.ownBlock = some g ∨ w.heap.size ≤ g) :
    BM G webl wz (w1.setCell ⟨t.tb, 6, none⟩ v') bb a cap rd rn rc mb mx (ts.set i { t with tv := v', r := { t.r with texts := t.r.texts ++ l } }) d dc f ws := by
  obtain ⟨hl, rfl⟩ := List.getElem?_eq_some_iff.1 hi
  have hT := h.task _ (List.getElem_mem hl)
  have hn := h.sep2 _ (List.getElem_mem hl)
  have k1 : But (fun b => b = ts[i].tb ∨ b ∈ ts[i].own) w w1 := But.of_grown hg (fun b e => .inr (List.mem_append.2 (.inl (Option.mem_toList.2 e))))
  have k : But (fun b => b = ts[i].tb ∨ b ∈ ts[i].own) w (w1.setCell ⟨ts[i].tb, 6, none⟩ v') := But.set k1 (p := ⟨ts[i].tb, 6, none⟩) (.inl rfl) v'
  have hb1 : w1.heap[ts[i].tb]? = w.heap[ts[i].tb]? := hg.block _ hT.row.lt (fun e => type_ne hT.row.type (owns_type hT.txt e.symm) (by decide) rfl)
  have hr1 : RowT w1 ts[i].tb 64 12 := hT.row.block hb1
  have hc1 : w1.rangeAt ts[i].tb 0 ts[i].cells := fun j u hu => (World.cell?_of_block (w := w) hb1).trans (hT.rng j u hu)
  have ne1 : ∀ {b : Nat}, TypeAt w1 b 9 → b ≠ ts[i].tb := fun hu => type_ne hu hr1.type (by decide)
  have kt : But (fun b => b = ts[i].tb) w1 (w1.setCell ⟨ts[i].tb, 6, none⟩ v') := But.set (S := fun b => b = ts[i].tb) (But.of_kept (Kept.refl w1)) (p := ⟨ts[i].tb, 6, none⟩) rfl v'
  have ask1 : w1.ownsRow wz.heap.size 9 1 ts[i].qv ts[i].qs.length ts[i].qs := (But.of_grown (S := fun b => ts[i].tv.ownBlock = some b) hg (fun b e => e)).owns hT.ask (fun b e e2 => by
    have h1 : b ∈ ts[i].tv.ownBlock.toList := Option.mem_toList.2 e2
    have h2 : b ∈ ts[i].qv.ownBlock.toList := Option.mem_toList.2 e
    unfold TaskM.own at hn
    exact (List.nodup_append.1 hn).2.2 b h1 b h2 rfl)
  refine h.turn hl k (fun b hb => hb) ⟨hr1.set v', range_set hc1 hr1.row (by omega) v', ?_, kt.owns ask1 (fun b e => ne1 (owns_type ask1 e)), hT.low⟩ rfl rfl rfl rfl rfl (fun x hx => ?_) ?_ (by have := h.qb ts[i] (List.getElem_mem hl); exact this)
  · show World.ownsRow _ _ _ _ v' (ts[i].r.texts ++ l).length ((ts[i].r.texts ++ l).map Value.string)
    rw [List.length_append, List.map_append]
    exact kt.owns ho (fun b e => ne1 (owns_type ho e))
  · unfold TaskM.own at hx ⊢
    rcases List.mem_append.1 hx with hx | hx
    · rcases hv x (Option.mem_toList.1 hx) with e | e
      · exact .inl (List.mem_append.2 (.inl (Option.mem_toList.2 e)))
      · exact .inr e
    · exact .inl (List.mem_append.2 (.inr hx))
  · unfold TaskM.own at hn ⊢
    rw [List.nodup_append] at hn ⊢
    refine ⟨?_, hn.2.1, fun x hx y hy => ?_⟩
    · show (v'.ownBlock.toList).Nodup
      cases v'.ownBlock <;> simp
    · rcases hv x (Option.mem_toList.1 hx) with e | e
      · exact hn.2.2 x (Option.mem_toList.2 e) y hy
      · have := (hT.ask.lt y (Option.mem_toList.1 hy)).2
        omega
end
theorem answers_at {W : Acts} {σ : Env} : ∀ {l : List ByteArray} {xs : List AnswerD}, answersOf W σ l = some xs → xs.length = l.length ∧ ∀ k, k < l.length → ansOf W σ (l.getD k ByteArray.empty) = some (xs.getD k AnswerD.zero)
  | [], xs, h => by
    unfold answersOf at h
    cases h
    exact ⟨rfl, fun k hk => absurd hk (Nat.not_lt_zero _)⟩
  | n :: l, xs, h => by
    unfold answersOf at h
    cases ha : ansOf W σ n with
    | none => rw [ha] at h; cases h
    | some x =>
      rw [ha] at h
      simp only at h
      cases hl : answersOf W σ l with
      | none => rw [hl] at h; cases h
      | some ys =>
        rw [hl] at h
        simp only [Option.some.injEq] at h
        subst h
        obtain ⟨h1, h2⟩ := answers_at hl
        refine ⟨by simp [h1], fun k hk => ?_⟩
        cases k with
        | zero => simpa using ha
        | succ k => simpa using h2 k (by simpa using hk)
end Go.Proofs.YtjhemildijapmaaGreatDoor
namespace Go.Proofs.YtjhemildijapmaaGreatDoor
open Go.RowKit
section
variable {G : Ghost} {webl : List NodeD} {wz w w' : World} {bb : Nat} {a : Option Addr} {cap : Nat} {rd : Option Addr} {rn rc : Nat} {mb mx : Nat} {ts : List TaskM} {d : Option Addr} {dc : Nat} {f : ByteArray → Value} {ws : ByteArray → List Nat}
def GoOnEnd (G : Ghost) (webl : List NodeD) (wz : World) (bb : Nat) (a : Option Addr) (cap : Nat) (rd : Option Addr) (rn rc mb mx : Nat) (ts : List TaskM) (d : Option Addr) (dc : Nat) (f : ByteArray → Value) (ws : ByteArray → List Nat) (i : Nat) (t : TaskM) (g : GoneD) (xs : List AnswerD) (w' : World) (e : Ending) : Prop :=
  (g.over = true ∧ e = .returned (.bool false) ∧ ∃ bl, (bl ∈ (stepOf ⟨t.cost, t.steps⟩ t.r.at').asks ∧ g.text = (⟨#[98, 101, 108, 111, 119, 32]⟩ : ByteArray) ++ bl) ∧ BM G webl wz w' bb a cap rd rn rc mb mx (decT (ts.set i (({ t with bl := bl } : TaskM).ended true g.text)) (ws t.r.name)) d dc (fun n => if n = t.r.name then .slice none 0 0 else f n) (fun n => if n = t.r.name then [] else ws n)) ∨
  (g.over = false ∧ e = .returned (.bool true) ∧ ∃ tv', BM G webl wz w' bb a cap rd rn rc mb mx (ts.set i { t with tv := tv', r := { t.r with at' := g.at', texts := t.r.texts ++ goodOf xs } }) d dc f ws)
set_option maxRecDepth 100000 in
set_option maxHeartbeats 6400000 in
theorem benchGoOn_any (hB : BM G webl wz w bb a cap rd rn rc mb mx ts d dc f ws) {i : Nat} {t : TaskM} (hi : ts[i]? = some t) (s : StepD) (hs : s = stepOf ⟨t.cost, t.steps⟩ t.r.at') (h0 : 0 ≤ t.r.at') (h1 : t.r.at' < t.steps.length) (hfin : s.fin = false) (xs : List AnswerD) (hxs : answersOf (actsOf webl) (envOf (runsOf ts)) s.asks = some xs) (hxt : ∀ x ∈ xs, x.text.size ≤ 200) (hfo : Followed s xs (goOnF s xs)) (hF : s.Fits) (hal : s.asks.length ≤ 5) (hasz : ∀ x ∈ s.asks, x.size ≤ 20) (hon : s.asks.length ≠ 0 → 0 ≤ s.on ∧ s.on < s.asks.length) (hwl : webl.length ≤ 60) (htx : t.r.texts.length ≤ 1000)
    (hsz : t.r.name.size ≤ 1000) (hwn : (ws t.r.name).length ≤ 1000) (hw : ∀ b ∈ ws t.r.name, ∃ (j : Nat) (u : TaskM), j ≠ i ∧ ts[j]? = some u ∧ u.tb = b ∧ 1 ≤ u.op ∧ u.op ≤ 1000) (hwd : (ws t.r.name).Nodup) :
    Calls Tryz.prog 59 #[.pointer (some ⟨bb, 0, none⟩), .pointer (some ⟨t.tb, 0, none⟩)] w fun e w' => GoOnEnd G webl wz bb a cap rd rn rc mb mx ts d dc f ws i t (goOnF s xs) xs w' e := by
  obtain ⟨ia, ha0, ha1, ha2, ha3⟩ := xInfo_parts Tryz.dInfoAns
  obtain ⟨is, hst0, hst1, hst2, hst3⟩ := xInfo_parts Tryz.xInfoStr
  obtain ⟨ix, hix⟩ : ∃ ix : Nat, t.r.at' = (ix : Int) := ⟨t.r.at'.toNat, by omega⟩
  have hixl : ix < t.steps.length := by omega
  have hT := hB.at hi
  have hact := hB.act t (List.mem_of_getElem? hi)
  obtain ⟨sb, so, cs, esa, hsb, hcs, aa, ca, ac, cc, rfl, hAs, hCs, _⟩ := hact.2 ix hixl
  have hse : t.steps.getD ix StepD.zero = s := by rw [hs]; unfold stepOf; rw [hix]; rfl
  rw [hse] at hcs hAs hCs
  have c8 : w.cell? ⟨t.tb, 8, none⟩ = some (.slice t.sa t.steps.length t.sc) := hT.rng 8 _ rfl
  have c4 : w.cell? ⟨t.tb, 4, none⟩ = some (.int .i64 t.r.at') := hT.rng 4 _ rfl
  rw [esa] at c8
  rw [hix] at c4
  have tz := hT.row.lt
  have sz : sb < w.heap.size := Nat.lt_of_lt_of_le hsb hB.kw.size
  have t0 : w.cell? ⟨sb, so + ix * 8, none⟩ = some (.slice aa s.asks.length ca) := (hB.kw.cell hsb).trans (hcs 0 _ rfl)
  have t1 : w.cell? ⟨sb, so + ix * 8 + 1, none⟩ = some (.int .i64 s.on) := (hB.kw.cell hsb).trans (hcs 1 _ rfl)
  have t2 : w.cell? ⟨sb, so + ix * 8 + 2, none⟩ = some (.slice ac s.cases.length cc) := (hB.kw.cell hsb).trans (hcs 2 _ rfl)
  have t3 : w.cell? ⟨sb, so + ix * 8 + 3, none⟩ = some (.int .i64 s.els) := (hB.kw.cell hsb).trans (hcs 3 _ rfl)
  have t4 : w.cell? ⟨sb, so + ix * 8 + 4, none⟩ = some (.int .i64 s.fall) := (hB.kw.cell hsb).trans (hcs 4 _ rfl)
  have t5 : w.cell? ⟨sb, so + ix * 8 + 5, none⟩ = some (.bool false) := by rw [← hfin]; exact (hB.kw.cell hsb).trans (hcs 5 _ rfl)
  have t6 : w.cell? ⟨sb, so + ix * 8 + 6, none⟩ = some (.bool s.bad) := (hB.kw.cell hsb).trans (hcs 6 _ rfl)
  have t7 : w.cell? ⟨sb, so + ix * 8 + 7, none⟩ = some (.string s.give) := (hB.kw.cell hsb).trans (hcs 7 _ rfl)
  have HSO : Hid (∀ w', Kept w w' → w'.cell? ⟨t.tb, 8, none⟩ = some (.slice (some ⟨sb, so, none⟩) t.steps.length t.sc) ∧ w'.cell? ⟨t.tb, 4, none⟩ = some (.int .i64 (ix : Int)) ∧ w'.cell? ⟨sb, so + ix * 8, none⟩ = some (.slice aa s.asks.length ca) ∧ w'.cell? ⟨sb, so + ix * 8 + 1, none⟩ = some (.int .i64 s.on) ∧ w'.cell? ⟨sb, so + ix * 8 + 2, none⟩ = some (.slice ac s.cases.length cc) ∧ w'.cell? ⟨sb, so + ix * 8 + 3, none⟩ = some (.int .i64 s.els) ∧ w'.cell? ⟨sb, so + ix * 8 + 4, none⟩ = some (.int .i64 s.fall) ∧ w'.cell? ⟨sb, so + ix * 8 + 5, none⟩ = some (.bool false) ∧ w'.cell? ⟨sb, so + ix * 8 + 6, none⟩ = some (.bool s.bad) ∧ w'.cell? ⟨sb, so + ix * 8 + 7, none⟩ = some (.string s.give)) := fun w' K => ⟨(K.cell tz).trans c8, (K.cell tz).trans c4, (K.cell sz).trans t0, (K.cell sz).trans t1, (K.cell sz).trans t2, (K.cell sz).trans t3, (K.cell sz).trans t4, (K.cell sz).trans t5, (K.cell sz).trans t6, (K.cell sz).trans t7⟩
  obtain ⟨hxl, hxa⟩ := answers_at hxs
  have HXa := hide hxa
  have HB := hide hB
  have HI := hide hi
  have HAs := hide hAs
  have HCs := hide hCs
  have HFo := hide hfo
  have HW := hide hw
  have HSe := hide hs
  have hbz := hB.kw.size
  have hii : (ix : Int) < (t.steps.length : Int) := by omega
  have hn6 := hB.len hwl
  clear hB hi hT hact esa hcs hAs hCs hse c8 c4 t0 t1 t2 t3 t4 t5 t6 t7 hxa hfo hw hix hs
  go_enter Tryz.func59, Tryz.ntmps59
  go_upto_region 1 with fail
  refine UpTo.rg 13 HSO.out fun wd KD hHeld => ?_
  refine UpTo.tk 0 hHeld ?_
  refine UpTo.tk 1 hHeld ?_
  refine UpTo.tk 2 hHeld ?_
  refine UpTo.tk 3 hHeld ?_
  refine UpTo.tk 4 hHeld ?_
  refine UpTo.tk 5 hHeld ?_
  refine UpTo.tk 6 hHeld ?_
  refine UpTo.tk 7 hHeld ?_
  refine UpTo.tk 8 hHeld ?_
  refine UpTo.tk 9 hHeld ?_
  refine UpTo.tk 10 hHeld ?_
  refine UpTo.tk 11 hHeld ?_
  refine UpTo.nx 12 (fun K hK => ?_)
  go_simp
  have K2 : Kept wd (wd.alloc (.cells #[.slice none 0 0, .int .i64 0, .slice none 0 0, .int .i64 0, .int .i64 0, .bool false, .bool false, .string ⟨#[]⟩] 120)) := (Kept.refl _).alloc _
  have hRw : RowT (wd.alloc (.cells #[.slice none 0 0, .int .i64 0, .slice none 0 0, .int .i64 0, .int .i64 0, .bool false, .bool false, .string ⟨#[]⟩] 120)) wd.heap.size 120 8 := RowT.made wd _ _
  have KE := KD.trans K2
  have nz := KD.size
  obtain ⟨gb, hgb⟩ : ∃ gb, gb = wd.heap.size := ⟨_, rfl⟩
  refine hK.out _ _ (fun _ => HSO.out _ KE) ?_
  clear hK K hHeld
  rw [← hgb] at hRw nz ⊢
  generalize hwe : wd.alloc (.cells #[.slice none 0 0, .int .i64 0, .slice none 0 0, .int .i64 0, .int .i64 0, .bool false, .bool false, .string ⟨#[]⟩] 120) = wE at hRw KE ⊢
  clear hwe K2 hgb
  try simp only [Act.put, upA, upB, upC]
  obtain ⟨⟨_, v0⟩, f0⟩ := hRw.row.at (i := 0) (by omega)
  obtain ⟨⟨_, v1⟩, f1⟩ := hRw.row.at (i := 1) (by omega)
  obtain ⟨⟨_, v2⟩, f2⟩ := hRw.row.at (i := 2) (by omega)
  obtain ⟨⟨_, v3⟩, f3⟩ := hRw.row.at (i := 3) (by omega)
  obtain ⟨⟨_, v4⟩, f4⟩ := hRw.row.at (i := 4) (by omega)
  obtain ⟨⟨_, v5⟩, f5⟩ := hRw.row.at (i := 5) (by omega)
  obtain ⟨⟨_, v6⟩, f6⟩ := hRw.row.at (i := 6) (by omega)
  obtain ⟨⟨_, v7⟩, f7⟩ := hRw.row.at (i := 7) (by omega)
  have vz := hRw.lt
  refine UpTo.nx 13 (fun K hK => ?_)
  go_simp
  refine hK.out _ _ (fun h => absurd rfl h) ?_
  clear hK K
  try simp only [Act.put, upA, upB, upC]
  refine UpTo.dn ?_
  have HR2 := hide (World.rangeAt_setCells_same wE gb 0 [.slice aa s.asks.length ca, .int .i64 s.on, .slice ac s.cases.length cc, .int .i64 s.els, .int .i64 s.fall, .bool false, .bool s.bad, .string s.give] (hRw.row.there (o := 0) (m := 8) (Nat.le_refl _)))
  have HK2 := hide (kept_sets (g := gb) nz [.slice aa s.asks.length ca, .int .i64 s.on, .slice ac s.cases.length cc, .int .i64 s.els, .int .i64 s.fall, .bool false, .bool s.bad, .string s.give] 0 KE)
  have HRw2 := hide (RowT.sets [.slice aa s.asks.length ca, .int .i64 s.on, .slice ac s.cases.length cc, .int .i64 s.els, .int .i64 s.fall, .bool false, .bool s.bad, .string s.give] 0 hRw)
  obtain ⟨w2, hw2⟩ : ∃ w2, w2 = wE.setCells gb 0 [.slice aa s.asks.length ca, .int .i64 s.on, .slice ac s.cases.length cc, .int .i64 s.els, .int .i64 s.fall, .bool false, .bool s.bad, .string s.give] := ⟨_, rfl⟩
  rw [← hw2] at HR2 HK2 HRw2
  go_upto_region 2 with fail
  have e2 : ((((((((wE.setCell ⟨gb, 0, none⟩ (.slice aa s.asks.length ca)).setCell ⟨gb, 1, none⟩ (.int .i64 s.on)).setCell ⟨gb, 2, none⟩ (.slice ac s.cases.length cc)).setCell ⟨gb, 3, none⟩ (.int .i64 s.els)).setCell ⟨gb, 4, none⟩ (.int .i64 s.fall)).setCell ⟨gb, 5, none⟩ (.bool false)).setCell ⟨gb, 6, none⟩ (.bool s.bad)).setCell ⟨gb, 7, none⟩ (.string s.give)) = w2 := by rw [hw2]; rfl
  rw [e2]
  clear e2 hw2 v0 v1 v2 v3 v4 v5 v6 v7 f0 f1 f2 f3 f4 f5 f6 f7 vz hRw KE nz KD
  have HB2 := hide (HB.out.kept HK2.out)
  have q0 : w2.cell? ⟨gb, 0, none⟩ = some (.slice aa s.asks.length ca) := HR2.out 0 _ rfl
  have gz := HRw2.out.lt
  have HSL : Hid (∀ w', Kept w2 w' → w'.cell? ⟨gb, 0, none⟩ = some (.slice aa s.asks.length ca) ∧ w'.cell? ⟨gb, 1, none⟩ = some (.int .i64 s.on) ∧ w'.cell? ⟨gb, 2, none⟩ = some (.slice ac s.cases.length cc) ∧ w'.cell? ⟨gb, 3, none⟩ = some (.int .i64 s.els) ∧ w'.cell? ⟨gb, 4, none⟩ = some (.int .i64 s.fall) ∧ w'.cell? ⟨gb, 5, none⟩ = some (.bool false) ∧ w'.cell? ⟨gb, 6, none⟩ = some (.bool s.bad) ∧ w'.cell? ⟨gb, 7, none⟩ = some (.string s.give)) := fun w' K => ⟨(K.cell gz).trans (HR2.out 0 _ rfl), (K.cell gz).trans (HR2.out 1 _ rfl), (K.cell gz).trans (HR2.out 2 _ rfl), (K.cell gz).trans (HR2.out 3 _ rfl), (K.cell gz).trans (HR2.out 4 _ rfl), (K.cell gz).trans (HR2.out 5 _ rfl), (K.cell gz).trans (HR2.out 6 _ rfl), (K.cell gz).trans (HR2.out 7 _ rfl)⟩
  go_wp2
  go_loopg [6, 27] s.asks.length (fun gg x6 x27 wr => ∃ (k : Nat) (av : Option Addr) (cv : Nat), x6 = .slice av k cv ∧ x27 = .int .i64 (k : Int) ∧ k + gg = s.asks.length ∧ Kept w2 wr ∧ Hid (wr.ownsRow w2.heap.size 151 2 (.slice av k cv) k (dAnsCells (xs.take k))))
  case atStart => exact ⟨0, none, 0, rfl, rfl, by omega, Kept.refl _, World.ownsRow_nil _ _ _ _⟩
  case round =>
    obtain ⟨k, av, cv, rfl, rfl, hkg, Kr, HO⟩ := hrel
    by_cases hlt : (k : Int) < (s.asks.length : Int)
    · have hkl : k < s.asks.length := by omega
      obtain ⟨n, hn⟩ : ∃ n, n = s.asks.getD k ByteArray.empty := ⟨_, rfl⟩
      obtain ⟨x, hx⟩ : ∃ x, x = xs.getD k AnswerD.zero := ⟨_, rfl⟩
      have hans := HXa.out k hkl
      rw [← hn, ← hx] at hans
      obtain ⟨b, o, rfl, hb0, hc0⟩ := HAs.out k hkl
      rw [← hn] at hc0
      have KWr := HB.out.kw.trans (HK2.out.trans Kr)
      have c0 : wr.cell? ⟨b, o + k, none⟩ = some (.string n) := (KWr.cell hb0).trans hc0
      have hnsz : n.size ≤ 20 := by rw [hn]; simp only [List.getD, List.getElem?_eq_getElem hkl, Option.getD_some]; exact hasz _ (List.getElem_mem hkl)
      have HTk : Hid (xs.take (k + 1) = xs.take k ++ [x]) := by
        show _ = _
        rw [List.take_succ_eq_append_getElem (by omega), hx]
        simp [List.getD, (by omega : k < xs.length)]
      have HAn : Hid ((∃ t ∈ ts, t.r.name = n) ∨ actsOf webl n = none) := by
        cases hA : actsOf webl n with
        | none => exact .inr rfl
        | some A =>
          refine .inl ?_
          unfold ansOf at hans
          rw [hA] at hans
          simp only at hans
          cases he : envOf (runsOf ts) n with
          | none => rw [he] at hans; cases hans
          | some r =>
            obtain ⟨h1, h2⟩ := env_mem he
            obtain ⟨u, hu, rfl⟩ := List.mem_map.1 h1
            exact ⟨u, hu, h2⟩
      have HAns := hide hans
      clear hn hx hans hc0
      go_wp2_with fail
      refine (benchAnswer_any (HB2.out.kept Kr) n (by omega) (by omega) HAn.out).mono ?_
      rintro e w4 ⟨⟨fa, tx, ok, rfl, ha4⟩, k4⟩
      rw [HAns.out] at ha4
      cases ok
      · simp at ha4
      simp only [if_true, Option.some.injEq] at ha4
      have K4 := Kr.trans k4
      have HO4 := hide (ownsRow_kept' HO.out k4)
      have HX : Hid (x = ⟨fa, tx⟩) := ha4
      clear ha4 c0
      obtain ⟨W5, hW5⟩ : ∃ W5, W5 = (w4.alloc (.cells #[.bool fa, .string tx] 151)).alloc (.cells #[.bool fa, .string tx] 151) := ⟨_, rfl⟩
      have K5 : Kept w4 W5 := by rw [hW5]; exact ((Kept.refl _).alloc _).alloc _
      have HOw := hide (ownsRow_kept' HO4.out K5)
      have KK := hide (K4.trans K5)
      have hbz5 : w2.heap.size ≤ W5.heap.size := KK.out.size
      have HNw : Hid (∀ j u, ([.bool fa, .string tx] : List Value)[j]? = some u → W5.cell? ((⟨w4.heap.size + 1, 0, none⟩ : Addr).add j) = some u) := fun j u hu => by
        rw [Addr.add_mid, hW5]
        have := range_new (w4.alloc (.cells #[.bool fa, .string tx] 151)) #[.bool fa, .string tx] 151 j u hu
        rw [World.size_alloc] at this
        exact this
      have HOne : Hid (∀ u ∈ ([.bool fa, .string tx] : List Value), u.oneCell' = true) := fun u hu => by simp only [List.mem_cons, List.not_mem_nil, or_false] at hu; rcases hu with rfl | rfl <;> rfl
      have hk5 : k ≤ 5 := by omega
      have HW5 := hide hW5
      clear hW5
      go_wp2_with (at_builtin; rw [← HW5.out]; refine wpList_append_own _ rfl (.tmp 37) (.tmp 39) 135 rfl w2.heap.size 151 ia _ 2 24 Tryz.underlying135 ha0 ha1 ha2 ha3 rfl (by decide) (.slice av k cv) k (dAnsCells (xs.take k)) rfl HOw.out ⟨w4.heap.size + 1, 0, none⟩ 1 1 [.bool fa, .string tx] rfl rfl HNw.out HOne.out (by unfold maxLen; omega) (by omega) hbz5 ?_; intro v' w6 hown2 hgr _; have KP := kept_of_grown KK.out (Nat.le_refl _) HOw.out hgr; have HP := hide hown2; obtain ⟨av2, cv2, rfl⟩ := own_slice hown2; clear hown2 hgr)
      go_roundg (gk - 1)
      case measure => omega
      case rel => exact ⟨k + 1, av2, cv2, rfl, by go_num, by omega, KP, hide (by rw [HTk.out, dAnsCells_snoc, HX.out]; exact HP.out)⟩
    · have hxk : xs.length = k := by omega
      have HXk := hide hxk
      have hO := HO.out
      rw [List.take_of_length_le (by omega)] at hO
      obtain ⟨a9, c9, e9, _, hTA⟩ := d_tans_of_owned hO
      simp only [Value.slice.injEq] at e9
      obtain ⟨rfl, hq9, rfl⟩ := e9
      clear hq9
      have HTA := hide hTA
      have HAn0 := hide hTA.answers
      obtain ⟨u0, u1, u2, u3, u4, u5, u6, u7⟩ := HSL.out wr Kr
      have gzr := Nat.lt_of_lt_of_le gz Kr.size
      clear hO hTA q0 hxk
      go_wp2_with fail
      refine (kindOf_ask wr s aa ac ca cc).mono ?_
      rintro e w5 ⟨rfl, k5⟩
      have K5 := Kr.trans k5
      clear u0 u1 u2 u3 u4 u5 u6 u7
      go_wp2_with fail
      have hfol := follow_ask w5 s hfin aa ac av ca cc cv xs hF (HAs.out.kept (HB.out.kw.trans (HK2.out.trans K5))) (HCs.out.kept (HB.out.kw.trans (HK2.out.trans K5))) (by unfold maxLen; omega) (fun c hc => by have := hxt c hc; unfold maxLen; omega) (HAn0.out.kept k5) hon (fun q hq => by simp only [List.getD, List.getElem?_eq_getElem hq, Option.getD_some]; exact hasz _ (List.getElem_mem hq))
      rw [HXk.out] at hfol
      refine hfol.mono ?_
      rintro e w6 ⟨⟨g, rfl, hfg⟩, k6⟩
      have hgg : goOnF s xs = g := HFo.out.unique hfg
      have HGG := hide hgg
      have HFg := hide hfg
      dsimp only [GoneD.cells]
      have K6 := K5.trans k6
      clear hfol hfg hgg
      obtain ⟨w7, hw7⟩ : ∃ w7, w7 = w6.alloc (.cells #[.int .i64 g.code, .bool g.over, .int .i64 g.at', .string g.text] 141) := ⟨_, rfl⟩
      have K67 : Kept w6 w7 := by rw [hw7]; exact (Kept.refl _).alloc _
      have p1 : w7.cell? ⟨w6.heap.size, 1, none⟩ = some (.bool g.over) := by rw [hw7]; exact range_new w6 #[.int .i64 g.code, .bool g.over, .int .i64 g.at', .string g.text] 141 1 _ rfl
      have p2 : w7.cell? ⟨w6.heap.size, 2, none⟩ = some (.int .i64 g.at') := by rw [hw7]; exact range_new w6 #[.int .i64 g.code, .bool g.over, .int .i64 g.at', .string g.text] 141 2 _ rfl
      have p3 : w7.cell? ⟨w6.heap.size, 3, none⟩ = some (.string g.text) := by rw [hw7]; exact range_new w6 #[.int .i64 g.code, .bool g.over, .int .i64 g.at', .string g.text] 141 3 _ rfl
      have hz67 : w6.heap.size < w7.heap.size := by rw [hw7]; simp
      go_upto_region 10 with fail
      rw [← hw7]
      clear hw7
      have K7 := K6.trans K67
      have k57 : Kept wr w7 := (k5.trans k6).trans K67
      have HAn := HAn0
      have HAs8 : Hid (∀ (v : Value) (b : Nat), b < w2.heap.size → Answers (w7.setCell ⟨b, 4, none⟩ v) av xs) := fun v b hb => by
        have h1 := ownsRow_kept' HO.out k57
        rw [List.take_of_length_le (by have := HXk.out; omega)] at h1
        obtain ⟨a9, c9, e9, _, hTA⟩ := d_tans_of_owned (owns_set h1 (p := ⟨b, 4, none⟩) hb v)
        simp only [Value.slice.injEq] at e9
        rw [e9.1]
        exact hTA.answers
      cases hgo : g.over
      · rw [hgo] at p1
        have hB7 := HB2.out.kept K7
        have hT7 := hB7.at HI.out
        obtain ⟨⟨_, x4⟩, f4⟩ := hT7.row.row.at (i := 4) (by omega)
        have tz7 := hT7.row.lt
        have HB8 := hide (hB7.store (t' := { t with r := { t.r with at' := g.at' } }) HI.out (o := 4) (v := .int .i64 g.at') (by omega) rfl rfl rfl rfl rfl rfl rfl rfl rfl rfl)
        clear hB7 hT7
        go_upto_region 15 with fail
        obtain ⟨w8, hw8⟩ : ∃ w8, w8 = w7.setCell ⟨t.tb, 4, none⟩ (.int .i64 g.at') := ⟨_, rfl⟩
        have htn8 : t.tb < w2.heap.size := Nat.lt_of_lt_of_le tz HK2.out.size
        have HA8 : Hid (Answers w8 av xs) := by rw [hw8]; exact HAs8.out _ _ htn8
        rw [← hw8] at HB8 ⊢
        clear hw8 x4 f4 tz7 p1 p2 p3
        have hil : i < ts.length := (List.getElem?_eq_some_iff.1 HI.out).1
        have HI8 : Hid ((ts.set i { t with r := { t.r with at' := g.at' } })[i]? = some { t with r := { t.r with at' := g.at' } }) := List.getElem?_set_self hil
        have HT8 := hide (HB8.out.at HI8.out)
        obtain ⟨ta, tc, htv⟩ := own_slice HT8.out.txt
        have Htv := hide htv
        have HS15 : Hid (∀ w', Kept w8 w' → w'.cell? ⟨t.tb, 6, none⟩ = some (t.tv)) := fun w' K => ((HB8.out.kept K).at HI8.out).rng 6 _ rfl
        refine UpTo.rg 12 HS15.out fun wd KD hHeld => ?_
        refine UpTo.tk 0 hHeld ?_
        refine UpTo.tk 1 hHeld ?_
        refine UpTo.tk 2 hHeld ?_
        refine UpTo.tk 3 hHeld ?_
        refine UpTo.tk 4 hHeld ?_
        refine UpTo.tk 5 hHeld ?_
        refine UpTo.tk 6 hHeld ?_
        refine UpTo.nx 7 (fun K hK => ?_)
        rw [if_pos (by rfl)]
        go_simp
        go_at_call 98
        have hgt := goodTexts_any wd av cv xs (by omega) (HA8.out.kept KD)
        rw [HXk.out] at hgt
        refine hgt.mono ?_
        rintro e w9 ⟨⟨ga, gc, rfl, hG9⟩, k9⟩
        have K9 := KD.trans k9
        have HB9 := hide (HB8.out.kept K9)
        have HT9 := hide (HB9.out.at HI8.out)
        have HG9 := hide hG9
        have hz9 := HB9.out.kw.size
        have hgl : (goodOf xs).length ≤ 5 := by have := List.length_filter_le (fun x : AnswerD => !x.fail) xs; unfold goodOf; rw [List.length_map]; omega
        refine hK.out _ _ (fun _ => HS15.out _ K9) ?_
        clear hK K hHeld hgt hG9
        try simp only [Act.put, upA, upB, upC]
        refine UpTo.nx 8 (fun K hK => ?_)
        rw [if_pos (by rfl)]
        refine wp_append_strs (.tmp 73) (.tmp 75) 25 rfl wz.heap.size 9 is _ 16 Tryz.underlying25 hst0 hst1 hst2 hst3 rfl t.tv t.r.texts.length (t.r.texts.map Value.string) rfl HT9.out.txt ga gc (goodOf xs) rfl HG9.out (by unfold maxLen; omega) (by omega) hz9 ?_
        intro v' wA hoA hgA hvA
        obtain ⟨va, vc, rfl⟩ := own_slice hoA
        have HBA := hide (HB9.out.texts (l := goodOf xs) HI8.out hoA hgA hvA)
        have hbA : wA.heap[t.tb]? = w9.heap[t.tb]? := hgA.block _ HT9.out.row.lt (fun e => type_ne HT9.out.row.type (owns_type HT9.out.txt e.symm) (by decide) rfl)
        have hrA : RowT wA t.tb 64 12 := HT9.out.row.block hbA
        have HSA : Hid (wA.cell? ⟨t.tb, 6, none⟩ = some t.tv) := (World.cell?_of_block (w := w9) hbA).trans (HT9.out.rng 6 _ rfl)
        obtain ⟨⟨_, x6⟩, f6⟩ := hrA.row.at (i := 6) (by omega)
        have tzA := hrA.lt
        refine hK.out _ _ (fun _ => HSA.out) ?_
        clear hK K hoA hgA hvA hbA hrA
        have hHeld := HSA.out
        try simp only [Act.put, upA, upB, upC]
        refine UpTo.tk 9 hHeld ?_
        refine UpTo.tk 10 hHeld ?_
        refine UpTo.tk 11 hHeld ?_
        refine UpTo.nx 12 (fun K hK => ?_)
        go_simp
        refine hK.out _ _ (fun h => absurd rfl h) ?_
        clear hK K hHeld
        try simp only [Act.put, upA, upB, upC]
        refine UpTo.dn ?_
        have hBA := HBA.out
        rw [List.set_set] at hBA
        have HBB := hide hBA
        clear hBA
        go_wp2_with fail
        go_ret
        rw [HGG.out]
        exact .inr ⟨hgo, rfl, .slice va (t.r.texts.length + (goodOf xs).length) vc, HBB.out⟩
      · rw [hgo] at p1
        obtain ⟨q, hql, hqf, hqn, hqt⟩ : ∃ q, q < xs.length ∧ IsFail (xs.getD q AnswerD.zero) ∧ NoneTo xs IsFail q ∧ g.text = belowOf s q := by
          rcases HFg.out with ⟨_, e⟩ | ⟨_, ⟨q, h1, h2, h3, ⟨_, e⟩ | ⟨_, e⟩⟩ | ⟨_, r, _, e⟩⟩
          · rw [e] at hgo; cases hgo
          · exact ⟨q, h1, h2, h3, by rw [e]⟩
          · rw [e] at hgo; cases hgo
          · rw [e] at hgo; cases hgo
        have hqa : q < s.asks.length := by omega
        obtain ⟨b, o, rfl, hb0, hc0⟩ := HAs.out q hqa
        obtain ⟨nm, hnm⟩ : ∃ nm, nm = s.asks.getD q ByteArray.empty := ⟨_, rfl⟩
        rw [← hnm] at hc0
        have HBl : Hid (nm ∈ (stepOf ⟨t.cost, t.steps⟩ t.r.at').asks ∧ g.text = (⟨#[98, 101, 108, 111, 119, 32]⟩ : ByteArray) ++ nm) := by
          refine ⟨?_, by rw [hqt, hnm]; rfl⟩
          rw [← HSe.out, hnm]
          simp only [List.getD, List.getElem?_eq_getElem hqa, Option.getD_some]
          exact List.getElem_mem hqa
        have HS11 : Hid (∀ w', Kept w7 w' → w'.cell? ⟨gb, 0, none⟩ = some (.slice (some ⟨b, o, none⟩) s.asks.length ca) ∧ w'.cell? ⟨b, o + q, none⟩ = some (.string nm)) := fun w' K => ⟨(HSL.out w' (K7.trans K)).1, ((HB.out.kw.trans (HK2.out.trans (K7.trans K))).cell hb0).trans hc0⟩
        have HFq : Hid (∀ r, FirstAt xs IsFail r → r = (q : Int)) := fun r hr => by
          rcases hr with ⟨j, hj, rfl, hp, hn⟩ | ⟨_, hn⟩
          · rcases Nat.lt_trichotomy j q with h | h | h
            · exact absurd hp (hqn j h)
            · rw [h]
            · exact absurd hqf (hn q h)
          · exact absurd hqf (hn q hql)
        have hqi : (q : Int) < (s.asks.length : Int) := by omega
        clear hc0 hnm hqf hqn hqt
        go_upto_region 11 with fail
        refine UpTo.rg 9 HS11.out fun wd KD hHeld => ?_
        refine UpTo.tk 0 hHeld ?_
        refine UpTo.tk 1 hHeld ?_
        refine UpTo.tk 2 hHeld ?_
        refine UpTo.tk 3 hHeld ?_
        refine UpTo.nx 4 (fun K hK => ?_)
        rw [if_pos (by rfl)]
        go_simp
        go_at_call 96
        have hixf := indexFail wd av cv xs (by unfold maxLen; omega) (fun c hc => by have := hxt c hc; unfold maxLen; omega) (HAn.out.kept (k57.trans KD))
        rw [HXk.out] at hixf
        refine hixf.mono ?_
        rintro e w8 ⟨⟨r8, rfl, hr8⟩, k8⟩
        obtain rfl := HFq.out r8 hr8
        have K8 := KD.trans k8
        refine hK.out _ _ (fun _ => HS11.out _ K8) ?_
        clear hK K hHeld hr8 hixf
        have hHeld := HS11.out _ K8
        try simp only [Act.put, upA, upB, upC]
        refine UpTo.tk 5 hHeld ?_
        refine UpTo.tk 6 hHeld ?_
        refine UpTo.tk 7 hHeld ?_
        refine UpTo.tk 8 hHeld ?_
        have hB8 := HB2.out.kept (K7.trans K8)
        have hT8 := hB8.at HI.out
        obtain ⟨⟨_, x11⟩, f11⟩ := hT8.row.row.at (i := 11) (by omega)
        have tz8 := hT8.row.lt
        have HB9 := hide (hB8.store (t' := { t with bl := nm }) HI.out (o := 11) (v := .string nm) (by omega) rfl rfl rfl rfl rfl rfl rfl rfl rfl rfl)
        have p3 := (K8.cell (b := w6.heap.size) (o := 3) hz67).trans p3
        have hz8 : w6.heap.size < w8.heap.size := Nat.lt_of_lt_of_le hz67 K8.size
        have hne8 : w6.heap.size ≠ t.tb := by have := (HB.out.at HI.out).row.lt; have h9 := (HK2.out.trans K6).size; omega
        clear hB8 hT8
        refine UpTo.nx 9 (fun K hK => ?_)
        go_simp
        refine hK.out _ _ (fun h => absurd rfl h) ?_
        clear hK K hHeld
        try simp only [Act.put, upA, upB, upC]
        refine UpTo.dn ?_
        have hil : i < ts.length := (List.getElem?_eq_some_iff.1 HI.out).1
        have p3b : (w8.setCell ⟨t.tb, 11, none⟩ (.string nm)).cell? ⟨w6.heap.size, 3, none⟩ = some (.string g.text) := by rw [cell_set_ne hne8]; exact p3
        have hz9 : w6.heap.size < (w8.setCell ⟨t.tb, 11, none⟩ (.string nm)).heap.size := by rw [size_setCell]; exact hz8
        obtain ⟨w9, hw9⟩ : ∃ w9, w9 = w8.setCell ⟨t.tb, 11, none⟩ (.string nm) := ⟨_, rfl⟩
        rw [← hw9] at HB9 p3b hz9 ⊢
        clear hw9 p3 x11 f11 tz8 hz8
        go_wp2_with fail
        refine (benchEnd_any HB9.out (i := i) (t := { t with bl := nm }) (List.getElem?_set_self hil) true g.text hsz hwn (fun b hb => ?_) hwd).mono ?_
        · obtain ⟨j, u, hji, hju, h3, h4, h5⟩ := HW.out b hb
          exact ⟨j, u, by rw [List.getElem?_set_ne (Ne.symm hji), List.getElem?_set_ne (Ne.symm hji)]; exact hju, h3, h4, h5⟩
        rintro e wF ⟨rfl, hBF⟩
        rw [List.set_set] at hBF
        have HBF := hide hBF
        clear hBF
        go_wp2_with fail
        go_ret
        rw [HGG.out]
        exact .inl ⟨hgo, rfl, nm, HBl.out, HBF.out⟩
end
end Go.Proofs.YtjhemildijapmaaGreatDoor
namespace Go.Proofs.YtjhemildijapmaaGreatDoor
theorem set_mem {ts : List TaskM} {i : Nat} {t t' : TaskM} (hi : ts[i]? = some t) (hn : (ts.map (·.tb)).Nodup) : ∀ u ∈ ts.set i t', u = t' ∨ (u ∈ ts ∧ u.tb ≠ t.tb) := fun u hu => by
  obtain ⟨hl, rfl⟩ := List.getElem?_eq_some_iff.1 hi
  obtain ⟨j, hj, rfl⟩ := List.getElem_of_mem hu
  rw [List.length_set] at hj
  rw [List.getElem_set]
  split
  · exact .inl rfl
  · rename_i hne
    refine .inr ⟨List.getElem_mem hj, fun e => ?_⟩
    have hnd2 := List.pairwise_iff_getElem.1 hn
    rcases Nat.lt_or_gt_of_ne hne with g | g
    · have := hnd2 i j (by simpa using hl) (by simpa using hj) g
      simp at this
      exact this e.symm
    · have := hnd2 j i (by simpa using hj) (by simpa using hl) g
      simp at this
      exact this e
theorem set_in {ts : List TaskM} {i : Nat} {t t' : TaskM} (hi : ts[i]? = some t) : t' ∈ ts.set i t' ∧ ∀ u ∈ ts, u.tb ≠ t.tb → u ∈ ts.set i t' := by
  obtain ⟨hl, rfl⟩ := List.getElem?_eq_some_iff.1 hi
  refine ⟨List.mem_iff_getElem.2 ⟨i, by rw [List.length_set]; exact hl, by simp⟩, fun u hu hne => ?_⟩
  obtain ⟨j, hj, rfl⟩ := List.getElem_of_mem hu
  refine List.mem_iff_getElem.2 ⟨j, by rw [List.length_set]; exact hj, ?_⟩
  rw [List.getElem_set, if_neg (fun e => hne (by subst e; rfl))]
theorem decT_mem {ts : List TaskM} {l : List Nat} {u : TaskM} : u ∈ decT ts l ↔ ∃ v ∈ ts, u = if v.tb ∈ l then { v with op := v.op - 1 } else v := by
  unfold decT
  rw [List.mem_map]
  constructor
  · rintro ⟨v, h1, h2⟩; exact ⟨v, h1, h2.symm⟩
  · rintro ⟨v, h1, h2⟩; exact ⟨v, h1, h2.symm⟩
theorem dec_bl {v : TaskM} {l : List Nat} : (if v.tb ∈ l then { v with op := v.op - 1 } else v : TaskM).bl = v.bl := by
  by_cases h : v.tb ∈ l
  · rw [if_pos h]
  · rw [if_neg h]
theorem dec_bq {v : TaskM} {l : List Nat} : (if v.tb ∈ l then { v with op := v.op - 1 } else v : TaskM).qs = v.qs := by
  by_cases h : v.tb ∈ l
  · rw [if_pos h]
  · rw [if_neg h]
theorem dec_same {v : TaskM} {l : List Nat} : (if v.tb ∈ l then { v with op := v.op - 1 } else v : TaskM).tb = v.tb ∧ (if v.tb ∈ l then { v with op := v.op - 1 } else v : TaskM).r = v.r := by
  by_cases h : v.tb ∈ l
  · rw [if_pos h]; exact ⟨rfl, rfl⟩
  · rw [if_neg h]; exact ⟨rfl, rfl⟩
theorem runs_dec (ts : List TaskM) (l : List Nat) : runsOf (decT ts l) = runsOf ts := by
  unfold runsOf decT
  rw [List.map_map]
  congr 1
  funext v
  exact dec_same.2
theorem env_set {l : List RunX} {i : Nat} {r r' : RunX} (ha : AscX l) (hi : l[i]? = some r) (hn : r'.name = r.name) (m : ByteArray) : envOf (l.set i r') m = if m = r.name then some r' else envOf l m := by
  obtain ⟨hl, rfl⟩ := List.getElem?_eq_some_iff.1 hi
  have ha' := asc_set ha hl hn
  have hin : r' ∈ l.set i r' := List.mem_iff_getElem.2 ⟨i, by rw [List.length_set]; exact hl, by simp⟩
  by_cases e : m = l[i].name
  · rw [if_pos e]
    have := asc_env ha' hin
    rw [hn, ← e] at this
    exact this
  · rw [if_neg e]
    cases h : envOf l m with
    | some x =>
      obtain ⟨h1, h2⟩ := env_mem h
      obtain ⟨j, hj, rfl⟩ := List.getElem_of_mem h1
      have hji : i ≠ j := fun e2 => e (by subst e2; exact h2.symm)
      have hx : l[j] ∈ l.set i r' := List.mem_iff_getElem.2 ⟨j, by rw [List.length_set]; exact hj, by rw [List.getElem_set, if_neg hji]⟩
      have := asc_env ha' hx
      rw [h2] at this
      exact this
    | none =>
      unfold envOf at h ⊢
      rw [List.find?_eq_none] at h ⊢
      intro x hx
      obtain ⟨j, hj, rfl⟩ := List.getElem_of_mem hx
      rw [List.length_set] at hj
      rw [List.getElem_set]
      split
      · rw [hn]; simpa using fun e2 => e e2.symm
      · exact h _ (List.getElem_mem hj)
theorem filter_ne_len {l : List ByteArray} {n : ByteArray} (h : l.Nodup) : (l.filter fun a => !decide (a = n)).length = if hasN l n = true then l.length - 1 else l.length := by
  induction l with
  | nil => simp [hasN]
  | cons x l ih =>
    rw [List.nodup_cons] at h
    have ih := ih h.2
    by_cases e : x = n
    · subst e
      have hno : ¬ hasN l x = true := fun g => h.1 (hasN_iff.1 g)
      rw [if_neg hno] at ih
      rw [if_pos (hasN_iff.2 (by simp))]
      simp [ih]
    · have e1 : hasN (x :: l) n = hasN l n := by simp [hasN, e]
      rw [e1]
      simp only [List.filter_cons, e, decide_false, Bool.not_false, if_true, List.length_cons]
      rw [ih]
      by_cases g : hasN l n = true
      · rw [if_pos g, if_pos g]
        have : 0 < l.length := List.length_pos_of_mem (hasN_iff.1 g)
        omega
      · rw [if_neg g, if_neg g]
theorem BS.self {webl : List NodeD} {ts : List TaskM} {ws : ByteArray → List Nat} (h : BS webl ts ws) {t : TaskM} (ht : t ∈ ts) (hc : CanGo (actsOf webl) (envOf (runsOf ts)) t.r) : t.op = 0 ∧ pend (actsOf webl) (envOf (runsOf ts)) t.r = [] ∧ ∀ s, t.tb ∉ ws s := by
  have hg := h.good.good t.r (List.mem_map_of_mem ht)
  obtain ⟨A, hA, _⟩ := hg.act
  have hp := ((canGo_iff (by rw [hA]; rfl)).1 hc).2
  refine ⟨by rw [h.op t ht, hp]; rfl, hp, fun s hs => ?_⟩
  have := (h.wt s t ht).1 hs
  rw [hp] at this
  cases this
theorem BS.ended {webl : List NodeD} (hok : ActsOk (actsOf webl)) {ts : List TaskM} {ws : ByteArray → List Nat} (h : BS webl ts ws) (hn : (ts.map (·.tb)).Nodup) {i : Nat} {t t' : TaskM} (hi : ts[i]? = some t) (hc : CanGo (actsOf webl) (envOf (runsOf ts)) t.r) (hr : t'.r = (nextOf (actsOf webl) (envOf (runsOf ts)) t.r).1) (ho : t'.r.over = true) (ha : (nextOf (actsOf webl) (envOf (runsOf ts)) t.r).2 = []) (htb : t'.tb = t.tb) (hop : t'.op = t.op) (hbl : BlOk (actsOf webl) t'.r t'.bl) (hqs : t'.qs = t.qs) :
    BS webl (decT (ts.set i t') (ws t.r.name)) (fun n => if n = t.r.name then [] else ws n) ∧ envOf (runsOf (decT (ts.set i t') (ws t.r.name))) = doX (actsOf webl) (envOf (runsOf ts)) t.r.name := by
  have ht : t ∈ ts := List.mem_of_getElem? hi
  obtain ⟨h1, h2, h3⟩ := h.self ht hc
  have hlr : (runsOf ts)[i]? = some t.r := by unfold runsOf; rw [List.getElem?_map, hi]; rfl
  have hli : i < ts.length := (List.getElem?_eq_some_iff.1 hi).1
  have hnm : t'.r.name = t.r.name := by rw [hr, nextOf_name]
  have hruns : runsOf (decT (ts.set i t') (ws t.r.name)) = (runsOf ts).set i t'.r := by rw [runs_dec, runs_set hli]
  have he0 : envOf (runsOf ts) t.r.name = some t.r := asc_env h.good.asc (List.mem_map_of_mem ht)
  have henv : envOf (runsOf (decT (ts.set i t') (ws t.r.name))) = doX (actsOf webl) (envOf (runsOf ts)) t.r.name := by
    funext m
    rw [hruns, env_set h.good.asc hlr hnm, doX_eq he0, hr]
    by_cases e : m = t.r.name
    · rw [if_pos e, if_pos e]
    · rw [if_neg e, if_neg e]
      cases envOf (runsOf ts) m with
      | some x => rfl
      | none =>
        simp only
        rw [if_neg (by rw [ha]; simp [hasN])]
  have hg := h.good.good t.r (List.mem_map_of_mem ht)
  have hw : (actsOf webl t.r.name).isSome = true := by obtain ⟨A, hA, _⟩ := hg.act; rw [hA]; rfl
  have hpo : ∀ x : RunX, pend (actsOf webl) (envOf (runsOf (decT (ts.set i t') (ws t.r.name)))) x = (pend (actsOf webl) (envOf (runsOf ts)) x).filter (fun a => !decide (a = t.r.name)) := fun x => by
    rw [henv, pend_do he0 hc.1 hw, ← hr, if_pos ho]
  have hpt : ∀ σ, pend (actsOf webl) σ t'.r = [] := fun σ => by unfold pend; rw [if_pos (.inl ho)]
  have hnd : ∀ u ∈ ts, (pend (actsOf webl) (envOf (runsOf ts)) u.r).Nodup := fun u hu => by
    obtain ⟨A, hA, g0, g1⟩ := (h.good.good u.r (List.mem_map_of_mem hu)).act
    exact pend_nodup hok hA g0 g1
  have hmem : ∀ u ∈ decT (ts.set i t') (ws t.r.name), u = t' ∨ ∃ v ∈ ts, v.tb ≠ t.tb ∧ u = if v.tb ∈ ws t.r.name then { v with op := v.op - 1 } else v := fun u hu => by
    obtain ⟨v, hv, rfl⟩ := decT_mem.1 hu
    rcases set_mem hi hn v hv with rfl | ⟨g1, g2⟩
    · left
      rw [if_neg (by rw [htb]; exact h3 _)]
    · exact .inr ⟨v, g1, g2, rfl⟩
  refine ⟨⟨⟨by rw [hruns]; exact asc_set h.good.asc (List.getElem?_eq_some_iff.1 hlr).1 (hnm.trans (congrArg RunX.name (List.getElem?_eq_some_iff.1 hlr).2).symm), fun x hx => ?_⟩, fun u hu => ?_, fun s u hu => ?_, fun s => ?_, fun s b hb => ?_, fun u hu => ?_, fun u hu => ?_⟩, henv⟩
  rotate_right
  · rw [henv]
    rcases hmem u hu with rfl | ⟨v, hv, _, rfl⟩
    · have := (h.qs t ht).unit hc
      rw [ha, List.map_nil, List.append_nil, ← hr, ← hqs] at this
      exact this.mono ⟨t.r, he0, hc⟩
    · rw [dec_same.2, dec_bq]; exact (h.qs v hv).mono ⟨t.r, he0, hc⟩
  rotate_right
  · rcases hmem u hu with rfl | ⟨v, hv, _, rfl⟩
    · exact hbl
    · rw [dec_same.2, dec_bl]; exact h.bl v hv
  · obtain ⟨u, hu, rfl⟩ := List.mem_map.1 hx
    rcases hmem u hu with rfl | ⟨v, hv, _, rfl⟩
    · rw [hr]; exact nextOf_good hok h.good.env hg hc
    · rw [dec_same.2]; exact h.good.good v.r (List.mem_map_of_mem hv)
  · rcases hmem u hu with rfl | ⟨v, hv, hne, rfl⟩
    · rw [hpt, hop, h1]; rfl
    · rw [dec_same.2, hpo, filter_ne_len (hnd v hv)]
      by_cases g : v.tb ∈ ws t.r.name
      · rw [if_pos g, if_pos (hasN_iff.2 ((h.wt _ v hv).1 g))]
        show v.op - 1 = _
        rw [h.op v hv]
      · rw [if_neg g, if_neg (fun g2 => g ((h.wt _ v hv).2 (hasN_iff.1 g2)))]
        exact h.op v hv
  · rcases hmem u hu with rfl | ⟨v, hv, hne, rfl⟩
    · rw [hpt]
      simp only [List.not_mem_nil, iff_false]
      intro g
      split at g
      · cases g
      · rw [htb] at g; exact h3 _ g
    · rw [dec_same.1, dec_same.2, hpo, List.mem_filter]
      by_cases e : s = t.r.name
      · simp [e]
      · simp only [e, if_false]
        rw [h.wt s v hv]
        simp
  · by_cases e : s = t.r.name
    · rw [if_pos e]; exact List.nodup_nil
    · rw [if_neg e]; exact h.wn s
  · split at hb
    · cases hb
    · obtain ⟨v, hv, e⟩ := h.ww s b hb
      by_cases g : v.tb = t.tb
      · exact absurd hb (by rw [← e, g]; exact h3 s)
      · exact ⟨_, decT_mem.2 ⟨v, (set_in hi).2 v hv g, rfl⟩, by rw [dec_same.1]; exact e⟩
theorem tb_one {ts : List TaskM} (hn : (ts.map (·.tb)).Nodup) {u v : TaskM} (hu : u ∈ ts) (hv : v ∈ ts) (e : u.tb = v.tb) : u = v := by
  obtain ⟨i, hi, rfl⟩ := List.getElem_of_mem hu
  obtain ⟨j, hj, rfl⟩ := List.getElem_of_mem hv
  have hnd2 := List.pairwise_iff_getElem.1 hn
  rcases Nat.lt_trichotomy i j with g | g | g
  · have := hnd2 i j (by simpa using hi) (by simpa using hj) g
    simp at this
    exact absurd e this
  · subst g; rfl
  · have := hnd2 j i (by simpa using hj) (by simpa using hi) g
    simp at this
    exact absurd e.symm this
theorem alike_mem {ts ts' : List TaskM} (h : (ts'.map fun t => (t.tb, t.r, t.op, t.bq)) = (ts.map fun t => (t.tb, t.r, t.op, t.bq))) : (∀ u ∈ ts', ∃ v ∈ ts, v.tb = u.tb ∧ v.r = u.r ∧ v.op = u.op ∧ v.bq = u.bq) ∧ (∀ v ∈ ts, ∃ u ∈ ts', u.tb = v.tb ∧ u.r = v.r ∧ u.op = v.op ∧ u.bq = v.bq) := by
  constructor
  · intro u hu
    have : (u.tb, u.r, u.op, u.bq) ∈ ts'.map fun t => (t.tb, t.r, t.op, t.bq) := List.mem_map.2 ⟨u, hu, rfl⟩
    rw [h] at this
    obtain ⟨v, hv, e⟩ := List.mem_map.1 this
    simp only [Prod.mk.injEq] at e
    exact ⟨v, hv, e.1, e.2.1, e.2.2.1, e.2.2.2⟩
  · intro v hv
    have : (v.tb, v.r, v.op, v.bq) ∈ ts.map fun t => (t.tb, t.r, t.op, t.bq) := List.mem_map.2 ⟨v, hv, rfl⟩
    rw [← h] at this
    obtain ⟨u, hu, e⟩ := List.mem_map.1 this
    simp only [Prod.mk.injEq] at e
    exact ⟨u, hu, e.1, e.2.1, e.2.2.1, e.2.2.2⟩
theorem alike_runs {ts ts' : List TaskM} (h : (ts'.map fun t => (t.tb, t.r, t.op, t.bq)) = (ts.map fun t => (t.tb, t.r, t.op, t.bq))) : runsOf ts' = runsOf ts := by
  have := congrArg (List.map fun p : Nat × RunX × Nat × ByteArray × List Value => p.2.1) h
  rw [List.map_map, List.map_map] at this
  exact this
theorem BS.asked {webl : List NodeD} (hok : ActsOk (actsOf webl)) {ts ts0 ts' : List TaskM} {ws ws' : ByteArray → List Nat} (h : BS webl ts ws) (hn : (ts.map (·.tb)).Nodup) {i : Nat} {t t1 : TaskM} (hi : ts[i]? = some t) (hc : CanGo (actsOf webl) (envOf (runsOf ts)) t.r) (hr : t1.r = (nextOf (actsOf webl) (envOf (runsOf ts)) t.r).1) (ho : t1.r.over = false) (hv : t1.r.visits ≠ 0) (htb : t1.tb = t.tb) (hop : t1.op = t.op ∧ t1.bl = t.bl ∧ t1.qs = t.qs ++ (nextOf (actsOf webl) (envOf (runsOf ts)) t.r).2.map Value.string)
    (hal : (ts0.map fun t => (t.tb, t.r, t.op, t.bq)) = ((ts.set i t1).map fun t => (t.tb, t.r, t.op, t.bq))) (ha' : AscX (runsOf ts')) (hn' : (ts'.map (·.tb)).Nodup) {A : ActionD} (hA : actsOf webl t.r.name = some A) (has : (nextOf (actsOf webl) (envOf (runsOf ts)) t.r).2 = (stepOf A t1.r.at').asks) (hI : AskI webl ts0 ws t.tb (nextOf (actsOf webl) (envOf (runsOf ts)) t.r).2 (nextOf (actsOf webl) (envOf (runsOf ts)) t.r).2 ts' ws') :
    BS webl ts' ws' ∧ envOf (runsOf ts') = doX (actsOf webl) (envOf (runsOf ts)) t.r.name := by
  have ht : t ∈ ts := List.mem_of_getElem? hi
  obtain ⟨h1, h2, h3⟩ := h.self ht hc
  have hlr : (runsOf ts)[i]? = some t.r := by unfold runsOf; rw [List.getElem?_map, hi]; rfl
  have hli : i < ts.length := (List.getElem?_eq_some_iff.1 hi).1
  have hnm : t1.r.name = t.r.name := by rw [hr, nextOf_name]
  have hr0 : runsOf ts0 = (runsOf ts).set i t1.r := by rw [alike_runs hal, runs_set hli]
  have he0 : envOf (runsOf ts) t.r.name = some t.r := asc_env h.good.asc (List.mem_map_of_mem ht)
  have hen0 : ∀ m, envOf (runsOf ts0) m = if m = t.r.name then some t1.r else envOf (runsOf ts) m := fun m => by rw [hr0]; exact env_set h.good.asc hlr hnm m
  have henv : envOf (runsOf ts') = doX (actsOf webl) (envOf (runsOf ts)) t.r.name := by
    funext m
    rw [hI.env m, hen0, doX_eq he0, hr]
    by_cases e : m = t.r.name
    · rw [if_pos e, if_pos e]
    · rw [if_neg e, if_neg e]
      cases envOf (runsOf ts) m <;> rfl
  have hg := h.good.good t.r (List.mem_map_of_mem ht)
  have hw : (actsOf webl t.r.name).isSome = true := by rw [hA]; rfl
  have hpo : ∀ x : RunX, pend (actsOf webl) (envOf (runsOf ts')) x = pend (actsOf webl) (envOf (runsOf ts)) x := fun x => by
    rw [henv, pend_do he0 hc.1 hw, ← hr, if_neg (by rw [ho]; simp)]
  have hpt : pend (actsOf webl) (envOf (runsOf ts')) t1.r = unans webl ts0 (nextOf (actsOf webl) (envOf (runsOf ts)) t.r).2 := by
    unfold pend unans
    rw [if_neg (by rw [ho]; simp [hv]), hnm, hA]
    simp only
    rw [has]
    congr 1
    funext a
    rw [hI.ans a]
  obtain ⟨t0, ht0, tm, htm, e1, e2, e3, e4, e5⟩ := hI.me
  obtain ⟨al1, al2⟩ := alike_mem hal
  have hr3 : tm.r = t1.r ∧ t0.op = 0 ∧ tm.bl = t.bl ∧ tm.qs = t1.qs := by
    obtain ⟨v, hv1, g1, g2, g3, g5⟩ := al1 t0 ht0
    rcases set_mem hi hn v hv1 with rfl | ⟨_, g4⟩
    · exact ⟨by rw [e3, ← g2], by rw [← g3, hop.1, h1], (congrArg Prod.fst (e5.trans g5.symm)).trans hop.2.1, congrArg Prod.snd (e5.trans g5.symm)⟩
    · exact absurd (g1.trans e1) g4
  have old : ∀ u ∈ ts', u.tb ≠ t.tb → (∃ v ∈ ts, v.tb = u.tb ∧ v.r = u.r ∧ v.op = u.op ∧ v.bq = u.bq) ∨ (u.r = RunX.fresh u.r.name ∧ (u.op = 0 ∧ u.bq = (⟨#[]⟩, [])) ∧ envOf (runsOf ts) u.r.name = none) := fun u hu hne => by
    rcases hI.other u hu hne with ⟨u0, hu0, g1, g2, g3, g5⟩ | ⟨g1, g2, g3⟩
    · obtain ⟨v, hv1, k1, k2, k3, k5⟩ := al1 u0 hu0
      rcases set_mem hi hn v hv1 with rfl | ⟨k4, _⟩
      · exact absurd (g1.symm.trans (k1.symm.trans htb)) hne
      · exact .inl ⟨v, k4, k1.trans g1, k2.trans g2, k3.trans g3, k5.trans g5⟩
    · refine .inr ⟨g1, g2, ?_⟩
      rw [hen0] at g3
      split at g3
      · cases g3
      · exact g3
  have keep : ∀ v ∈ ts, v.tb ≠ t.tb → ∃ u ∈ ts', u.tb = v.tb ∧ u.r = v.r := fun v hv1 hne => by
    obtain ⟨u0, hu0, g1, g2, _⟩ := al2 v ((set_in hi).2 v hv1 hne)
    obtain ⟨u, hu, k1, k2⟩ := hI.old u0 hu0
    exact ⟨u, hu, k1.trans g1, k2.trans g2⟩
  have hws : ∀ s b, b ∈ ws' s ↔ b ∈ ws s ∨ (hasN (unans webl ts0 (nextOf (actsOf webl) (envOf (runsOf ts)) t.r).2) s = true ∧ b = t.tb) := fun s b => by
    rw [hI.wt s]
    split
    · rename_i g; simp [g]
    · rename_i g; simp [g]
  refine ⟨⟨⟨ha', fun x hx => ?_⟩, fun u hu => ?_, fun s u hu => ?_, fun s => ?_, fun s b hb => ?_, fun u hu => ?_, fun u hu => ?_⟩, henv⟩
  rotate_right
  · rw [henv]
    by_cases g : u.tb = t.tb
    · have := tb_one hn' hu htm (g.trans e2.symm)
      rw [this, hr3.1, hr3.2.2.2, hr, hop.2.2]
      exact ((h.qs t ht).unit hc).mono ⟨t.r, he0, hc⟩
    · rcases old u hu g with ⟨v, hv1, _, g2, _, g3⟩ | ⟨g1, g2, _⟩
      · rw [← g2, ← show v.qs = u.qs from congrArg Prod.snd g3]; exact (h.qs v hv1).mono ⟨t.r, he0, hc⟩
      · exact QsOk.still (congrArg Prod.snd g2.2) g1
  rotate_right
  · by_cases g : u.tb = t.tb
    · have := tb_one hn' hu htm (g.trans e2.symm)
      rw [this, hr3.1, hr3.2.2.1]
      exact BlOk.still ((h.bl t ht).open hc.1) ho
    · rcases old u hu g with ⟨v, hv1, _, g2, _, g3⟩ | ⟨g1, g2, _⟩
      · rw [← g2, ← show v.bl = u.bl from congrArg Prod.fst g3]; exact h.bl v hv1
      · exact BlOk.still (congrArg Prod.fst g2.2) (by rw [g1]; rfl)
  · obtain ⟨u, hu, rfl⟩ := List.mem_map.1 hx
    by_cases g : u.tb = t.tb
    · have := tb_one hn' hu htm (g.trans e2.symm)
      rw [this, hr3.1, hr]
      exact nextOf_good hok h.good.env hg hc
    · rcases old u hu g with ⟨v, hv1, _, g2, _⟩ | ⟨g1, _, _⟩
      · rw [← g2]; exact h.good.good v.r (List.mem_map_of_mem hv1)
      · have hsome : (actsOf webl u.r.name).isSome = true := by
          have h5 := asc_env ha' hx
          rw [hI.env] at h5
          rcases hI.other u hu g with ⟨u0, hu0, k1, k2, _⟩ | ⟨_, _, k3⟩
          · obtain ⟨v, hv1, m1, m2, _⟩ := al1 u0 hu0
            rcases set_mem hi hn v hv1 with rfl | ⟨m4, _⟩
            · exact absurd (k1.symm.trans (m1.symm.trans htb)) g
            · obtain ⟨B, hB, _⟩ := (h.good.good v.r (List.mem_map_of_mem m4)).act
              rw [← k2, ← m2, hB]; rfl
          · rw [k3] at h5
            simp only at h5
            split at h5
            · rename_i h6; exact h6.2
            · cases h5
        rw [g1]
        exact fresh_good hok hsome
  · by_cases g : u.tb = t.tb
    · have := tb_one hn' hu htm (g.trans e2.symm)
      rw [this, hr3.1, hpt, e4, hr3.2.1, Nat.zero_add]
    · rw [hpo]
      rcases old u hu g with ⟨v, hv1, _, g2, g3, _⟩ | ⟨g1, g2, _⟩
      · rw [← g2, ← g3]; exact h.op v hv1
      · rw [g1, g2.1, pend_fresh]; rfl
  · by_cases g : u.tb = t.tb
    · have := tb_one hn' hu htm (g.trans e2.symm)
      rw [this, hr3.1, hpt, hws, e2, hasN_iff]
      exact ⟨fun k => by rcases k with k | k; exact absurd k (h3 s); exact k.1, fun k => .inr ⟨k, rfl⟩⟩
    · rw [hpo, hws]
      rcases old u hu g with ⟨v, hv1, g1, g2, g3⟩ | ⟨g1, g2, g3⟩
      · rw [← g1, ← g2, ← h.wt s v hv1]
        exact ⟨fun k => by rcases k with k | ⟨_, k⟩; exact k; exact absurd (g1.symm.trans k) g, .inl⟩
      · rw [g1, pend_fresh]
        simp only [List.not_mem_nil, iff_false]
        rintro (k | ⟨_, k⟩)
        · obtain ⟨v, hv1, m1⟩ := h.ww s u.tb k
          obtain ⟨u2, hu2, m2, m3⟩ := keep v hv1 (fun e => g (m1.symm.trans e))
          have := tb_one hn' hu hu2 (m1.symm.trans m2.symm)
          have h5 := asc_env h.good.asc (List.mem_map_of_mem (f := fun t : TaskM => t.r) hv1)
          rw [← m3, ← this, g3] at h5
          cases h5
        · exact g k
  · rw [hI.wt s]
    split
    · rw [List.nodup_append]
      exact ⟨h.wn s, by simp, fun x hx y hy e => by rw [List.mem_singleton] at hy; rw [e, hy] at hx; exact h3 s hx⟩
    · exact h.wn s
  · rcases (hws s b).1 hb with k | ⟨_, k⟩
    · obtain ⟨v, hv1, m1⟩ := h.ww s b k
      by_cases g : v.tb = t.tb
      · exact absurd k (by rw [← m1, g]; exact h3 s)
      · obtain ⟨u2, hu2, m2, _⟩ := keep v hv1 g
        exact ⟨u2, hu2, m2.trans m1⟩
    · exact ⟨tm, htm, e2.trans k.symm⟩
end Go.Proofs.YtjhemildijapmaaGreatDoor
namespace Go.Proofs.YtjhemildijapmaaGreatDoor
open Go.RowKit
def FinishOk (wz : World) : Prop := ∀ (W : World) (give : ByteArray) (a : Option Addr) (cap : Nat) (l : List ByteArray), Kept wz W → give.size ≤ maxLen → l.length ≤ maxLen → Strs W a l → l.length ≤ cap → Calls Tryz.prog 60 #[.string give, .slice a l.length cap] W fun e w' => e = .returned (.string (finB give l)) ∧ Kept W w'
theorem spent_any (w : World) (tb : Nat) (v : Int) (hc : w.cell? ⟨tb, 5, none⟩ = some (.int .i64 v)) :
    Calls Tryz.prog 57 #[.pointer (some ⟨tb, 0, none⟩)] w fun e w' => Says e (v = 20) ∧ w' = w := by
  go_enter Tryz.func57, Tryz.ntmps57
  go_wp2
  go_ret
  exact ⟨by simp [Says], rfl⟩
theorem canGo_answers {W : Acts} {σ : Env} {r : RunX} {A : ActionD} (h : CanGo W σ r) (hA : W r.name = some A) (hv : r.visits ≠ 0) : ∃ xs, answersOf W σ (stepOf A r.at').asks = some xs := by
  rcases h.2 with h | ⟨A', xs, hA', hx⟩
  · exact absurd h hv
  · rw [hA] at hA'
    cases hA'
    exact ⟨xs, hx⟩
theorem BS.wlen {webl : List NodeD} {ts : List TaskM} {ws : ByteArray → List Nat} (h : BS webl ts ws) (s : ByteArray) : (ws s).length ≤ ts.length := by
  have h1 := List.Nodup.length_le_of_subset (h.wn s) (l₂ := ts.map (·.tb)) (fun b hb => by
    obtain ⟨t, ht, e⟩ := h.ww s b hb
    exact List.mem_map.2 ⟨t, ht, e⟩)
  simpa using h1
theorem BS.waiters {webl : List NodeD} (hok : ActsOk (actsOf webl)) {ts : List TaskM} {ws : ByteArray → List Nat} (h : BS webl ts ws) (_hn : (ts.map (·.tb)).Nodup) {i : Nat} {t : TaskM} (hi : ts[i]? = some t) (hc : CanGo (actsOf webl) (envOf (runsOf ts)) t.r) : ∀ b ∈ ws t.r.name, ∃ (j : Nat) (u : TaskM), j ≠ i ∧ ts[j]? = some u ∧ u.tb = b ∧ 1 ≤ u.op ∧ u.op ≤ 1000 := fun b hb => by
  obtain ⟨u, hu, e⟩ := h.ww _ b hb
  obtain ⟨_, _, h3⟩ := h.self (List.mem_of_getElem? hi) hc
  obtain ⟨j, hj, rfl⟩ := List.getElem_of_mem hu
  have hp := (h.wt t.r.name ts[j] hu).1 (by rw [e]; exact hb)
  have ho := h.op ts[j] hu
  refine ⟨j, ts[j], fun e2 => ?_, List.getElem?_eq_getElem hj, e, ?_, ?_⟩
  · subst e2
    rw [List.getElem?_eq_getElem hj] at hi
    cases hi
    exact h3 _ (by rw [e]; exact hb)
  · rw [ho]; exact List.length_pos_of_mem hp
  · rw [ho]
    obtain ⟨A, hA, g0, g1⟩ := (h.good.good ts[j].r (List.mem_map_of_mem hu)).act
    have h5 := (asks_ok (hok _ _ hA).1 g0 g1).1
    unfold pend
    split
    · exact Nat.zero_le _
    · rw [hA]
      simp only
      have := List.length_filter_le (fun a => (ansOf (actsOf webl) (envOf (runsOf ts)) a).isNone) (stepOf A ts[j].r.at').asks
      omega
structure DoArr (webl : List NodeD) (σ : Env) (t t2 : TaskM) : Prop where
  nx : nextOf (actsOf webl) σ t.r = (if (stepOf ⟨t.cost, t.steps⟩ t2.r.at').fin = true then { t2.r with over := true, fail := (stepOf ⟨t.cost, t.steps⟩ t2.r.at').bad, text := finB (stepOf ⟨t.cost, t.steps⟩ t2.r.at').give t2.r.texts } else t2.r, (stepOf ⟨t.cost, t.steps⟩ t2.r.at').asks)
  lo : 0 ≤ t2.r.at'
  hi : t2.r.at' < t.steps.length
  ov : t2.r.over = false
  vi : t2.r.visits ≠ 0
  nm : t2.r.name = t.r.name
theorem DoArr.first {webl : List NodeD} {σ : Env} {t t1 : TaskM} (h1 : t1 = { t with r := { t.r with visits := t.r.visits + 1 } }) (hv : t.r.visits = 0) (hA : actsOf webl t.r.name = some ⟨t.cost, t.steps⟩) (hc : CanGo (actsOf webl) σ t.r) (h0 : 0 ≤ t.r.at') (hl : t.r.at' < t.steps.length) : DoArr webl σ t t1 := by
  subst h1
  refine ⟨?_, h0, hl, hc.1, by show t.r.visits + 1 ≠ 0; omega, rfl⟩
  unfold nextOf
  rw [hA]
  simp only
  rw [if_pos hv]
  rfl
theorem next_over {webl : List NodeD} {σ : Env} {t : TaskM} {xs : List AnswerD} (hA : actsOf webl t.r.name = some ⟨t.cost, t.steps⟩) (hv : t.r.visits ≠ 0) (h20 : t.r.visits < 20) (hx : answersOf (actsOf webl) σ (stepOf ⟨t.cost, t.steps⟩ t.r.at').asks = some xs) (hg : (goOnF (stepOf ⟨t.cost, t.steps⟩ t.r.at') xs).over = true) : nextOf (actsOf webl) σ t.r = ({ t.r with visits := t.r.visits + 1, over := true, fail := true, text := (goOnF (stepOf ⟨t.cost, t.steps⟩ t.r.at') xs).text }, []) := by
  unfold nextOf
  rw [hA]
  simp only
  rw [if_neg hv, hx]
  simp only
  rw [if_neg (by omega), if_pos hg]
theorem DoArr.gone {webl : List NodeD} {ts : List TaskM} {t t2 : TaskM} {xs : List AnswerD} (hok : ActsOk (actsOf webl)) (hgl : GoodL webl (runsOf ts)) (hgd : t.r.Good webl) (hA : actsOf webl t.r.name = some ⟨t.cost, t.steps⟩) (hc : CanGo (actsOf webl) (envOf (runsOf ts)) t.r) (hv : t.r.visits ≠ 0) (h20 : t.r.visits < 20) (hx : answersOf (actsOf webl) (envOf (runsOf ts)) (stepOf ⟨t.cost, t.steps⟩ t.r.at').asks = some xs) (hg : (goOnF (stepOf ⟨t.cost, t.steps⟩ t.r.at') xs).over = false) (h2 : t2.r = { t.r with visits := t.r.visits + 1, at' := (goOnF (stepOf ⟨t.cost, t.steps⟩ t.r.at') xs).at', texts := t.r.texts ++ goodOf xs }) : DoArr webl (envOf (runsOf ts)) t t2 := by
  have hnx : nextOf (actsOf webl) (envOf (runsOf ts)) t.r = (if (stepOf ⟨t.cost, t.steps⟩ t2.r.at').fin = true then { t2.r with over := true, fail := (stepOf ⟨t.cost, t.steps⟩ t2.r.at').bad, text := finB (stepOf ⟨t.cost, t.steps⟩ t2.r.at').give t2.r.texts } else t2.r, (stepOf ⟨t.cost, t.steps⟩ t2.r.at').asks) := by
    unfold nextOf
    rw [hA]
    simp only
    rw [if_neg hv, hx]
    simp only
    rw [if_neg (by omega), if_neg (by rw [hg]; simp), h2]
    rfl
  have h3 := (nextOf_good hok hgl.env hgd hc).act
  obtain ⟨A', hA', g0, g1⟩ := h3
  rw [nextOf_name, hA] at hA'
  cases hA'
  have e : (nextOf (actsOf webl) (envOf (runsOf ts)) t.r).1.at' = t2.r.at' := by rw [hnx]; simp only; split <;> rfl
  rw [e] at g0 g1
  exact ⟨hnx, g0, g1, by rw [h2]; exact hc.1, by rw [h2]; show t.r.visits + 1 ≠ 0; have := hgd.lo; omega, by rw [h2]⟩
theorem answersOf_congr {W : Acts} {σ σ' : Env} (h : ∀ a, ansOf W σ' a = ansOf W σ a) : ∀ l, answersOf W σ' l = answersOf W σ l
  | [] => rfl
  | a :: l => by unfold answersOf; rw [h a, answersOf_congr h l]
theorem answers_visit {webl : List NodeD} {ts : List TaskM} {i : Nat} {t t1 : TaskM} (ha : AscX (runsOf ts)) (hi : ts[i]? = some t) (_ho : t.r.over = false) (h1 : t1 = { t with r := { t.r with visits := t.r.visits + 1 } }) {l : List ByteArray} : answersOf (actsOf webl) (envOf (runsOf (ts.set i t1))) l = answersOf (actsOf webl) (envOf (runsOf ts)) l := by
  refine answersOf_congr (fun n => ?_) l
  have hli : i < ts.length := (List.getElem?_eq_some_iff.1 hi).1
  have hlr : (runsOf ts)[i]? = some t.r := by unfold runsOf; rw [List.getElem?_map, hi]; rfl
  unfold ansOf
  cases actsOf webl n with
  | none => rfl
  | some A =>
    simp only
    rw [runs_set hli, env_set ha hlr (by rw [h1])]
    by_cases e : n = t.r.name
    · rw [if_pos e, e, asc_env ha (List.mem_of_getElem? hlr), h1]
    · rw [if_neg e]
theorem step_facts {webl : List NodeD} {ts : List TaskM} {t : TaskM} {s : StepD} {xs : List AnswerD} (hok : ActsOk (actsOf webl)) (hft : ∀ y ∈ webl, y.Fits) (hA : actsOf webl t.r.name = some ⟨t.cost, t.steps⟩) (hgd : t.r.Good webl) (hc : CanGo (actsOf webl) (envOf (runsOf ts)) t.r) (hgl : GoodL webl (runsOf ts)) (hv : t.r.visits ≠ 0) (hs : s = stepOf ⟨t.cost, t.steps⟩ t.r.at') (hx : answersOf (actsOf webl) (envOf (runsOf ts)) s.asks = some xs) :
    s.Fits ∧ s.fin = false ∧ s.asks.length ≤ 5 ∧ (∀ x ∈ s.asks, x.size ≤ 20) ∧ (s.asks.length ≠ 0 → 0 ≤ s.on ∧ s.on < s.asks.length) ∧ AnsOk s xs ∧ ∀ x ∈ xs, x.text.size ≤ 200 := by
  obtain ⟨A', hA', h0, h1⟩ := hgd.act
  rw [hA] at hA'
  cases hA'
  have hfin : s.fin = false := by rw [hs]; exact hgd.stp _ hA hc.1 hv
  obtain ⟨g1, g2⟩ := asks_ok (hok _ _ hA).1 h0 h1
  rw [← hs] at g1 g2
  have g3 : ∀ x ∈ s.asks, x.size ≤ 20 := fun x hx => (g2 x hx).2.1
  obtain ⟨a1, a2⟩ := answers_ok hgl.env g3 hx
  have hst := (hok _ _ hA).1.2.2 t.r.at'.toNat (by dsimp only at h1 ⊢; omega)
  have hst2 : StepOk s t.steps.length := by rw [hs]; exact hst
  have hon := (hst2.2 hfin).1.2.2.2.2.2.2.2
  refine ⟨?_, hfin, g1, g3, fun hne => ?_, a1, a2⟩
  · obtain ⟨k, hk, _, _, e⟩ := acts_first hA
    simp only [ActionD.mk.injEq] at e
    have hy := hft _ (List.getElem_mem hk)
    have hin : s ∈ (webl.getD k NodeD.zero).steps := by
      rw [hs, ← e.2]
      unfold stepOf
      dsimp only at h1 ⊢
      have hlt : t.r.at'.toNat < t.steps.length := by omega
      simp only [List.getD, List.getElem?_eq_getElem hlt, Option.getD_some]
      exact List.getElem_mem hlt
    simp only [List.getD, List.getElem?_eq_getElem hk, Option.getD_some] at hin
    exact hy.each s hin
  · rcases hon with h | h
    · rw [h]; omega
    · exact h
theorem step_ok {webl : List NodeD} {t : TaskM} {s : StepD} {x : Int} (hok : ActsOk (actsOf webl)) (hA : actsOf webl t.r.name = some ⟨t.cost, t.steps⟩) (h0 : 0 ≤ x) (h1 : x < t.steps.length) (hs : s = stepOf ⟨t.cost, t.steps⟩ x) : StepOk s t.steps.length := by
  rw [hs]
  exact (hok _ _ hA).1.2.2 x.toNat (by dsimp only; omega)
theorem step_end_asks {webl : List NodeD} {t : TaskM} {s : StepD} {x : Int} (hok : ActsOk (actsOf webl)) (hA : actsOf webl t.r.name = some ⟨t.cost, t.steps⟩) (h0 : 0 ≤ x) (h1 : x < t.steps.length) (hs : s = stepOf ⟨t.cost, t.steps⟩ x) (hf : s.fin = true) : s.asks = [] :=
  List.length_eq_zero_iff.1 ((step_ok hok hA h0 h1 hs).1 hf).1
theorem step_asks_nodup {webl : List NodeD} {t : TaskM} {s : StepD} {x : Int} (hok : ActsOk (actsOf webl)) (hA : actsOf webl t.r.name = some ⟨t.cost, t.steps⟩) (h0 : 0 ≤ x) (h1 : x < t.steps.length) (hs : s = stepOf ⟨t.cost, t.steps⟩ x) : s.asks.Nodup := by
  have h := step_ok hok hA h0 h1 hs
  cases hf : s.fin with
  | true => rw [List.length_eq_zero_iff.1 (h.1 hf).1]; exact List.nodup_nil
  | false =>
    have hn := (h.2 hf).1.2.2.2.1
    rw [List.Nodup, List.pairwise_iff_getElem]
    intro i j hi hj hij e
    have := (hn j hj).2 i hij
    simp only [List.getD, List.getElem?_eq_getElem hi, List.getElem?_eq_getElem hj, Option.getD_some] at this
    exact this e
theorem step_give {webl : List NodeD} {t : TaskM} {s : StepD} {x : Int} (hft : ∀ y ∈ webl, y.Fits) (hA : actsOf webl t.r.name = some ⟨t.cost, t.steps⟩) (h0 : 0 ≤ x) (h1 : x < t.steps.length) (hs : s = stepOf ⟨t.cost, t.steps⟩ x) : s.give.size ≤ maxLen := by
  obtain ⟨k, hk, _, _, e⟩ := acts_first hA
  simp only [ActionD.mk.injEq] at e
  have hy := hft _ (List.getElem_mem hk)
  have hin : s ∈ (webl.getD k NodeD.zero).steps := by
    rw [hs, ← e.2]
    unfold stepOf
    dsimp only
    have hlt : x.toNat < t.steps.length := by omega
    simp only [List.getD, List.getElem?_eq_getElem hlt, Option.getD_some]
    exact List.getElem_mem hlt
  simp only [List.getD, List.getElem?_eq_getElem hk, Option.getD_some] at hin
  exact (hy.each s hin).give
theorem arr_texts {webl : List NodeD} {ts : List TaskM} {t t2 : TaskM} (hok : ActsOk (actsOf webl)) (hgl : GoodL webl (runsOf ts)) (hgd : t.r.Good webl) (hc : CanGo (actsOf webl) (envOf (runsOf ts)) t.r) (h : DoArr webl (envOf (runsOf ts)) t t2) : t2.r.texts.length ≤ 1000 := by
  have hg := nextOf_good hok hgl.env hgd hc
  have e : (nextOf (actsOf webl) (envOf (runsOf ts)) t.r).1.texts = t2.r.texts := by rw [h.nx]; simp only; split <;> rfl
  have h1 := hg.tl
  have h2 := hg.hi
  rw [e] at h1
  omega
def DoMid (G : Ghost) (webl : List NodeD) (wz : World) (bb : Nat) (a : Option Addr) (cap : Nat) (rd : Option Addr) (rn rc mb mx : Nat) (ts : List TaskM) (d : Option Addr) (dc : Nat) (f : ByteArray → Value) (ws : ByteArray → List Nat) (i : Nat) (t : TaskM) (b : Bool) (w' : World) : Prop :=
  (b = true ∧ ∃ ts' f' ws', BM G webl wz w' bb a cap rd rn rc mb mx ts' d dc f' ws' ∧ BS webl ts' ws' ∧ envOf (runsOf ts') = doX (actsOf webl) (envOf (runsOf ts)) t.r.name) ∨
  (b = false ∧ ∃ t2, BM G webl wz w' bb a cap rd rn rc mb mx (ts.set i t2) d dc f ws ∧ t2.tb = t.tb ∧ (t2.op = t.op ∧ t2.bl = t.bl ∧ t2.qs = t.qs) ∧ t2.cost = t.cost ∧ t2.steps = t.steps ∧ DoArr webl (envOf (runsOf ts)) t t2)
section
variable {G : Ghost} {webl : List NodeD} {wz w w' : World} {bb : Nat} {a : Option Addr} {cap : Nat} {rd : Option Addr} {rn rc : Nat} {mb mx : Nat} {ts : List TaskM} {d : Option Addr} {dc : Nat} {f : ByteArray → Value} {ws : ByteArray → List Nat}
set_option maxRecDepth 100000 in
set_option maxHeartbeats 6400000 in
theorem benchDo_any (hB : BM G webl wz w bb a cap rd rn rc mb mx ts d dc f ws) (hS : BS webl ts ws) {i : Nat} {t : TaskM} (hi : ts[i]? = some t) (hc : CanGo (actsOf webl) (envOf (runsOf ts)) t.r) (hok : ActsOk (actsOf webl)) (hft : ∀ y ∈ webl, y.Fits) (hwl : webl.length ≤ 60) (hwr : Rises webl) (hN : Nodes wz a webl) (hmx : mx ≤ 90000) (hFi : FinishOk wz) :
    Calls Tryz.prog 26 #[.pointer (some ⟨bb, 0, none⟩), .pointer (some ⟨t.tb, 0, none⟩)] w fun e w' => e = .returned (.tuple #[]) ∧ ∃ ts' d' dc' f' ws', BM G webl wz w' bb a cap rd rn rc mb (mx + 6) ts' d' dc' f' ws' ∧ BS webl ts' ws' ∧ envOf (runsOf ts') = doX (actsOf webl) (envOf (runsOf ts)) t.r.name := by
  have ht : t ∈ ts := List.mem_of_getElem? hi
  obtain ⟨hop0, hpe0, hnw0⟩ := hS.self ht hc
  have hgd := hS.good.good t.r (List.mem_map_of_mem ht)
  have hA := (hB.act t ht).1
  obtain ⟨A', hA', hat0, hat1⟩ := hgd.act
  rw [hA] at hA'
  cases hA'
  dsimp only at hat1
  have hT := hB.at hi
  have c5 : w.cell? ⟨t.tb, 5, none⟩ = some (.int .i64 t.r.visits) := hT.rng 5 _ rfl
  have tz := hT.row.lt
  obtain ⟨_, f5⟩ := hT.row.row.at (i := 5) (by omega)
  have lo := hgd.lo
  have hi20 := hgd.hi
  have hn6 := hB.len hwl
  have hil : i < ts.length := (List.getElem?_eq_some_iff.1 hi).1
  have HWt := hide (hS.waiters hok hB.tbs hi hc)
  have hwl6 := hS.wlen t.r.name
  have hnsz : t.r.name.size ≤ 1000 := by have := (hok _ _ hA).2.2.1; omega
  have HB := hide hB
  have HS := hide hS
  have HI := hide hi
  have HC := hide hc
  have HA := hide hA
  have HG := hide hgd
  clear hB hS hi hc hA hT hgd hpe0
  go_enter Tryz.func26, Tryz.ntmps26
  go_wp2_with fail
  refine (spent_any w t.tb t.r.visits c5).mono ?_
  rintro e w0 ⟨hsay, hw0⟩
  rw [hw0]
  clear hw0 w0
  rcases hsay.cases with ⟨rfl, hsp⟩ | ⟨rfl, hsp⟩
  · have HSp := hide hsp
    clear hsp hsay
    go_wp2_with fail
    refine (benchEnd_any HB.out HI.out true spentB hnsz (by omega) (fun b hb => ?_) (HS.out.wn _)).mono ?_
    · obtain ⟨j, u, hji, hju, h3, h4, h5⟩ := HWt.out b hb
      exact ⟨j, u, by rw [List.getElem?_set_ne (Ne.symm hji)]; exact hju, h3, h4, h5⟩
    rintro e wF ⟨rfl, hBF⟩
    have HBF := hide hBF
    clear hBF
    go_wp2_with fail
    refine bodyPost_ret (results_none rfl _ _ _) rfl ?_
    obtain ⟨xs, hxs⟩ := canGo_answers HC.out HA.out (by have := HSp.out; omega)
    have hnx : nextOf (actsOf webl) (envOf (runsOf ts)) t.r = ({ t.r with over := true, fail := true, text := spentB }, []) := by
      unfold nextOf
      rw [HA.out]
      simp only
      rw [if_neg (by have := HSp.out; omega), hxs]
      simp only
      rw [if_pos HSp.out]
    obtain ⟨q1, q2⟩ := HS.out.ended hok HB.out.tbs (t' := t.ended true spentB) HI.out HC.out (by rw [hnx]; rfl) rfl (by rw [hnx]) rfl rfl (.inl ⟨(HS.out.bl t (List.mem_of_getElem? HI.out)).open HC.out.1, fun _ _ => .inl rfl⟩) rfl
    exact ⟨rfl, _, d, dc, _, _, HBF.out.more (by omega), q1, q2⟩
  · have HSp := hide hsp
    have hv20 : t.r.visits < 20 := by omega
    clear hsp hsay
    obtain ⟨t1, ht1⟩ : ∃ t1 : TaskM, t1 = { t with r := { t.r with visits := t.r.visits + 1 } } := ⟨_, rfl⟩
    obtain ⟨W1, hW1⟩ : ∃ W1, W1 = w.setCell ⟨t.tb, 5, none⟩ (.int .i64 (t.r.visits + 1)) := ⟨_, rfl⟩
    have HB1 : Hid (BM G webl wz W1 bb a cap rd rn rc mb mx (ts.set i t1) d dc f ws) := by rw [hW1, ht1]; exact HB.out.store HI.out (by omega) rfl rfl rfl rfl rfl rfl rfl rfl rfl rfl
    have HI1 : Hid ((ts.set i t1)[i]? = some t1) := List.getElem?_set_self hil
    go_upto_region 3 with fail
    rw [← hW1]
    clear hW1
    have c5b : W1.cell? ⟨t.tb, 5, none⟩ = some (.int .i64 (t.r.visits + 1)) := by have h := (HB1.out.at HI1.out).rng 5 _ rfl; rw [ht1] at h; exact h
    have HT1 := hide ht1
    clear ht1
    go_cut [30] from 19 to 29 (fun s30 wx => ∃ b : Bool, s30 = .bool b ∧ DoMid G webl wz bb a cap rd rn rc mb mx ts d dc f ws i t b wx)
    case first =>
      by_cases hv0 : t.r.visits = 0
      · have hlt : ¬ (1 : Int) < t.r.visits + 1 := by omega
        have HV0 := hide hv0
        clear hv0
        go_wp2_with fail
        go_meet
        exact ⟨false, rfl, .inr ⟨rfl, t1, HB1.out, by rw [HT1.out], by rw [HT1.out]; exact ⟨rfl, rfl, rfl⟩, by rw [HT1.out], by rw [HT1.out], DoArr.first HT1.out HV0.out HA.out HC.out hat0 hat1⟩⟩
      · have hlt : (1 : Int) < t.r.visits + 1 := by omega
        have HVn := hide hv0
        obtain ⟨xs, hxs⟩ := canGo_answers HC.out HA.out hv0
        obtain ⟨s, hs⟩ : ∃ s, s = stepOf ⟨t.cost, t.steps⟩ t.r.at' := ⟨_, rfl⟩
        rw [← hs] at hxs
        obtain ⟨hF, hfin, hal, hasz, hon, hAn, hxt⟩ := step_facts hok hft HA.out HG.out HC.out HS.out.good hv0 hs hxs
        have hxs1 : answersOf (actsOf webl) (envOf (runsOf (ts.set i t1))) s.asks = some xs := by rw [answers_visit HS.out.good.asc HI.out HC.out.1 HT1.out]; exact hxs
        have htl : t.r.texts.length ≤ 1000 := by have := HG.out.tl; omega
        have HXs := hide hxs
        have HSs := hide hs
        have HGn := hide (benchGoOn_any HB1.out (t := t1) HI1.out s (by rw [HT1.out]; exact hs) (by rw [HT1.out]; exact hat0) (by rw [HT1.out]; exact hat1) hfin xs hxs1 hxt (goOnF_followed hAn) hF hal hasz hon hwl (by rw [HT1.out]; exact htl) (by rw [HT1.out]; exact hnsz) (by rw [HT1.out]; show (ws t.r.name).length ≤ 1000; omega) (fun b hb => by
          rw [HT1.out] at hb
          obtain ⟨j, u, hji, hju, h3, h4, h5⟩ := HWt.out b hb
          exact ⟨j, u, hji, by rw [List.getElem?_set_ne (Ne.symm hji)]; exact hju, h3, h4, h5⟩) (by rw [HT1.out]; exact HS.out.wn _))
        have HTb : Hid (t1.tb = t.tb) := by rw [HT1.out]; rfl
        rw [HTb.out] at HGn
        clear hv0 hxs hs hF hfin hal hasz hon hAn hxt hxs1
        go_wp2_with fail
        refine HGn.out.mono ?_
        rintro e w4 (⟨hgo, rfl, bl, hbl, hB4⟩ | ⟨hgo, rfl, tv', hB4⟩)
        · have HBl := hide hbl
          clear hbl
          have HB4 := hide hB4
          have HGo := hide hgo
          clear hB4 hgo
          go_wp2_with fail
          go_meet
          have hB5 := HB4.out
          rw [HT1.out, List.set_set] at hB5
          have hnx := next_over HA.out HVn.out hv20 (by rw [← HSs.out]; exact HXs.out) (by rw [← HSs.out]; exact HGo.out)
          obtain ⟨q1, q2⟩ := HS.out.ended hok HB.out.tbs (t' := (({ t with bl := bl, r := { t.r with visits := t.r.visits + 1 } } : TaskM).ended true (goOnF s xs).text)) HI.out HC.out (by rw [hnx, HSs.out]; rfl) rfl (by rw [hnx]) rfl rfl (.inr ⟨rfl, rfl, ⟨⟨t.cost, t.steps⟩, HA.out, HG.out.stp _ HA.out HC.out.1 HVn.out, by have h := HBl.out.1; rw [HT1.out] at h; exact h⟩, HBl.out.2⟩) rfl
          exact ⟨true, rfl, .inl ⟨rfl, _, _, _, hB5, q1, q2⟩⟩
        · have HB4 := hide hB4
          have HGo := hide hgo
          clear hB4 hgo
          go_wp2_with fail
          go_meet
          have hB5 := HB4.out
          rw [HT1.out, List.set_set] at hB5
          exact ⟨false, rfl, .inr ⟨rfl, _, hB5, rfl, ⟨rfl, rfl, rfl⟩, rfl, rfl, DoArr.gone hok HS.out.good HG.out HA.out HC.out HVn.out hv20 (by rw [← HSs.out]; exact HXs.out) (by rw [← HSs.out]; exact HGo.out) (by rw [← HSs.out])⟩⟩
    case rest =>
      obtain ⟨b, rfl, hm⟩ := hcut
      obtain ⟨w4, rfl⟩ : ∃ w4, w4 = wc := ⟨_, rfl⟩
      rcases hm with ⟨rfl, ts', f', ws', hB', hS', he'⟩ | ⟨rfl, t2, hB2, e1, e2, e3, e4, hArr⟩
      · have HB' := hide hB'
        have HS' := hide hS'
        have HE' := hide he'
        clear hB' hS' he'
        go_wp2_with fail
        refine bodyPost_ret (results_none rfl _ _ _) rfl ?_
        exact ⟨rfl, ts', d, dc, f', ws', HB'.out.more (by omega), HS'.out, HE'.out⟩
      have hi2 : (ts.set i t2)[i]? = some t2 := List.getElem?_set_self hil
      have hT2 := hB2.at hi2
      have hac2 := hB2.act t2 (List.mem_of_getElem? hi2)
      obtain ⟨ix, hix⟩ : ∃ ix : Nat, t2.r.at' = (ix : Int) := ⟨t2.r.at'.toNat, by have := hArr.lo; omega⟩
      have hixl : ix < t2.steps.length := by have := hArr.hi; rw [e4]; omega
      obtain ⟨sb, so, cs, esa, hsb, hcs, aa, ca, ac, cc, rfl, hAs, hCs, _⟩ := hac2.2 ix hixl
      obtain ⟨s, hs⟩ : ∃ s, s = stepOf ⟨t.cost, t.steps⟩ t2.r.at' := ⟨_, rfl⟩
      have hse : t2.steps.getD ix StepD.zero = s := by rw [hs, e4]; unfold stepOf; rw [hix]; rfl
      rw [hse] at hcs hAs hCs
      have c8 : w4.cell? ⟨t.tb, 8, none⟩ = some (.slice t2.sa t2.steps.length t2.sc) := by rw [← e1]; exact hT2.rng 8 _ rfl
      have c4 : w4.cell? ⟨t.tb, 4, none⟩ = some (.int .i64 t2.r.at') := by rw [← e1]; exact hT2.rng 4 _ rfl
      rw [esa] at c8
      rw [hix] at c4
      have tz4 : t.tb < w4.heap.size := by rw [← e1]; exact hT2.row.lt
      have sz : sb < w4.heap.size := Nat.lt_of_lt_of_le hsb hB2.kw.size
      have y0 : w4.cell? ⟨sb, so + ix * 8, none⟩ = some (.slice aa s.asks.length ca) := (hB2.kw.cell hsb).trans (hcs 0 _ rfl)
      have y1 : w4.cell? ⟨sb, so + ix * 8 + 1, none⟩ = some (.int .i64 s.on) := (hB2.kw.cell hsb).trans (hcs 1 _ rfl)
      have y2 : w4.cell? ⟨sb, so + ix * 8 + 2, none⟩ = some (.slice ac s.cases.length cc) := (hB2.kw.cell hsb).trans (hcs 2 _ rfl)
      have y3 : w4.cell? ⟨sb, so + ix * 8 + 3, none⟩ = some (.int .i64 s.els) := (hB2.kw.cell hsb).trans (hcs 3 _ rfl)
      have y4 : w4.cell? ⟨sb, so + ix * 8 + 4, none⟩ = some (.int .i64 s.fall) := (hB2.kw.cell hsb).trans (hcs 4 _ rfl)
      have y5 : w4.cell? ⟨sb, so + ix * 8 + 5, none⟩ = some (.bool s.fin) := (hB2.kw.cell hsb).trans (hcs 5 _ rfl)
      have y6 : w4.cell? ⟨sb, so + ix * 8 + 6, none⟩ = some (.bool s.bad) := (hB2.kw.cell hsb).trans (hcs 6 _ rfl)
      have y7 : w4.cell? ⟨sb, so + ix * 8 + 7, none⟩ = some (.string s.give) := (hB2.kw.cell hsb).trans (hcs 7 _ rfl)
      have HSO : Hid (∀ w', Kept w4 w' → w'.cell? ⟨t.tb, 8, none⟩ = some (.slice (some ⟨sb, so, none⟩) t2.steps.length t2.sc) ∧ w'.cell? ⟨t.tb, 4, none⟩ = some (.int .i64 (ix : Int)) ∧ w'.cell? ⟨sb, so + ix * 8, none⟩ = some (.slice aa s.asks.length ca) ∧ w'.cell? ⟨sb, so + ix * 8 + 1, none⟩ = some (.int .i64 s.on) ∧ w'.cell? ⟨sb, so + ix * 8 + 2, none⟩ = some (.slice ac s.cases.length cc) ∧ w'.cell? ⟨sb, so + ix * 8 + 3, none⟩ = some (.int .i64 s.els) ∧ w'.cell? ⟨sb, so + ix * 8 + 4, none⟩ = some (.int .i64 s.fall) ∧ w'.cell? ⟨sb, so + ix * 8 + 5, none⟩ = some (.bool s.fin) ∧ w'.cell? ⟨sb, so + ix * 8 + 6, none⟩ = some (.bool s.bad) ∧ w'.cell? ⟨sb, so + ix * 8 + 7, none⟩ = some (.string s.give)) := fun w' K => ⟨(K.cell tz4).trans c8, (K.cell tz4).trans c4, (K.cell sz).trans y0, (K.cell sz).trans y1, (K.cell sz).trans y2, (K.cell sz).trans y3, (K.cell sz).trans y4, (K.cell sz).trans y5, (K.cell sz).trans y6, (K.cell sz).trans y7⟩
      have HB2 := hide hB2
      have HI2 := hide hi2
      have HAs := hide hAs
      have HAr := hide hArr
      have HSe := hide hs
      have E1 := hide e1
      have E2 := hide e2
      have hii : (ix : Int) < (t2.steps.length : Int) := by omega
      obtain ⟨g1, g2⟩ := asks_ok (hok _ _ HA.out).1 hArr.lo (by exact hArr.hi)
      rw [← hs] at g1 g2
      have hgiv : s.give.size ≤ maxLen := step_give hft HA.out hArr.lo hArr.hi hs
      have hpk2 : t2.r.texts.length ≤ 1000 := arr_texts hok HS.out.good HG.out HC.out hArr
      clear hB2 hi2 hT2 hac2 esa hcs hAs hCs hse c8 c4 y0 y1 y2 y3 y4 y5 y6 y7 hArr hix hs e1 e2 e3 e4 c5b
      go_upto_region 4 with fail
      refine UpTo.rg 13 HSO.out fun wd KD hHeld => ?_
      refine UpTo.tk 0 hHeld ?_
      refine UpTo.tk 1 hHeld ?_
      refine UpTo.tk 2 hHeld ?_
      refine UpTo.tk 3 hHeld ?_
      refine UpTo.tk 4 hHeld ?_
      refine UpTo.tk 5 hHeld ?_
      refine UpTo.tk 6 hHeld ?_
      refine UpTo.tk 7 hHeld ?_
      refine UpTo.tk 8 hHeld ?_
      refine UpTo.tk 9 hHeld ?_
      refine UpTo.tk 10 hHeld ?_
      refine UpTo.tk 11 hHeld ?_
      refine UpTo.nx 12 (fun K hK => ?_)
      go_simp
      have K2 : Kept wd (wd.alloc (.cells #[.slice none 0 0, .int .i64 0, .slice none 0 0, .int .i64 0, .int .i64 0, .bool false, .bool false, .string ⟨#[]⟩] 120)) := (Kept.refl _).alloc _
      have hRw : RowT (wd.alloc (.cells #[.slice none 0 0, .int .i64 0, .slice none 0 0, .int .i64 0, .int .i64 0, .bool false, .bool false, .string ⟨#[]⟩] 120)) wd.heap.size 120 8 := RowT.made wd _ _
      have KE := KD.trans K2
      have nz := KD.size
      obtain ⟨gb, hgb⟩ : ∃ gb, gb = wd.heap.size := ⟨_, rfl⟩
      refine hK.out _ _ (fun _ => HSO.out _ KE) ?_
      clear hK K hHeld
      rw [← hgb] at hRw nz ⊢
      generalize hwe : wd.alloc (.cells #[.slice none 0 0, .int .i64 0, .slice none 0 0, .int .i64 0, .int .i64 0, .bool false, .bool false, .string ⟨#[]⟩] 120) = wE at hRw KE ⊢
      clear hwe K2 hgb
      try simp only [Act.put, upA, upB, upC]
      obtain ⟨⟨_, v0⟩, f0⟩ := hRw.row.at (i := 0) (by omega)
      obtain ⟨⟨_, v1⟩, f1⟩ := hRw.row.at (i := 1) (by omega)
      obtain ⟨⟨_, v2⟩, f2⟩ := hRw.row.at (i := 2) (by omega)
      obtain ⟨⟨_, v3⟩, f3⟩ := hRw.row.at (i := 3) (by omega)
      obtain ⟨⟨_, v4⟩, f4⟩ := hRw.row.at (i := 4) (by omega)
      obtain ⟨⟨_, v5⟩, f5⟩ := hRw.row.at (i := 5) (by omega)
      obtain ⟨⟨_, v6⟩, f6⟩ := hRw.row.at (i := 6) (by omega)
      obtain ⟨⟨_, v7⟩, f7⟩ := hRw.row.at (i := 7) (by omega)
      have vz := hRw.lt
      refine UpTo.nx 13 (fun K hK => ?_)
      go_simp
      refine hK.out _ _ (fun h => absurd rfl h) ?_
      clear hK K
      try simp only [Act.put, upA, upB, upC]
      refine UpTo.dn ?_
      have HR2 := hide (World.rangeAt_setCells_same wE gb 0 [.slice aa s.asks.length ca, .int .i64 s.on, .slice ac s.cases.length cc, .int .i64 s.els, .int .i64 s.fall, .bool s.fin, .bool s.bad, .string s.give] (hRw.row.there (o := 0) (m := 8) (Nat.le_refl _)))
      have HK2 := hide (kept_sets (g := gb) nz [.slice aa s.asks.length ca, .int .i64 s.on, .slice ac s.cases.length cc, .int .i64 s.els, .int .i64 s.fall, .bool s.fin, .bool s.bad, .string s.give] 0 KE)
      have HRw2 := hide (RowT.sets [.slice aa s.asks.length ca, .int .i64 s.on, .slice ac s.cases.length cc, .int .i64 s.els, .int .i64 s.fall, .bool s.fin, .bool s.bad, .string s.give] 0 hRw)
      obtain ⟨w5, hw5⟩ : ∃ w5, w5 = wE.setCells gb 0 [.slice aa s.asks.length ca, .int .i64 s.on, .slice ac s.cases.length cc, .int .i64 s.els, .int .i64 s.fall, .bool s.fin, .bool s.bad, .string s.give] := ⟨_, rfl⟩
      rw [← hw5] at HR2 HK2 HRw2
      go_upto_region 5 with fail
      have e5 : ((((((((wE.setCell ⟨gb, 0, none⟩ (.slice aa s.asks.length ca)).setCell ⟨gb, 1, none⟩ (.int .i64 s.on)).setCell ⟨gb, 2, none⟩ (.slice ac s.cases.length cc)).setCell ⟨gb, 3, none⟩ (.int .i64 s.els)).setCell ⟨gb, 4, none⟩ (.int .i64 s.fall)).setCell ⟨gb, 5, none⟩ (.bool s.fin)).setCell ⟨gb, 6, none⟩ (.bool s.bad)).setCell ⟨gb, 7, none⟩ (.string s.give)) = w5 := by rw [hw5]; rfl
      rw [e5]
      clear e5 hw5 v0 v1 v2 v3 v4 v5 v6 v7 f0 f1 f2 f3 f4 f5 f6 f7 vz hRw KE nz KD
      have HB5 := hide (HB2.out.kept HK2.out)
      have q5 : w5.cell? ⟨gb, 5, none⟩ = some (.bool s.fin) := HR2.out 5 _ rfl
      have gz := HRw2.out.lt
      cases hfin : s.fin
      · rw [hfin] at q5
        have q0 : w5.cell? ⟨gb, 0, none⟩ = some (.slice aa s.asks.length ca) := HR2.out 0 _ rfl
        have HAk := hide (benchAsk_any HB5.out HI2.out aa ca s.asks g1 (fun x hx => (g2 x hx).2.1) (step_asks_nodup hok HA.out HAr.out.lo HAr.out.hi HSe.out) HAs.out (by omega) hwl hwr hN (fun s' b hb => ?_) (fun s' => by have := HS.out.wlen s'; omega) (by rw [E2.out.1]; omega))
        rotate_left
        · obtain ⟨v, hv, e⟩ := HS.out.ww s' b hb
          by_cases g : v.tb = t.tb
          · exact ⟨t2, (set_in HI.out).1, by rw [E1.out, ← g, e]⟩
          · exact ⟨v, (set_in HI.out).2 v hv g, e⟩
        rw [E1.out] at HAk
        go_wp2_with fail
        refine HAk.out.mono ?_
        rintro e w6 ⟨rfl, ts0, ts', d', dc', f', ws', hal, hB6, hI6⟩
        have HB6 := hide hB6
        have HI6 := hide hI6
        have HAl := hide hal
        clear hB6 hI6 hal
        go_wp2_with fail
        go_end0
        have hnx := HAr.out.nx
        rw [← HSe.out, hfin] at hnx
        simp only [Bool.false_eq_true, if_false] at hnx
        obtain ⟨z1, z2⟩ := HS.out.asked hok HB.out.tbs (ts0 := ts0) (t1 := { t2 with qs := t2.qs ++ s.asks.map Value.string }) HI.out HC.out (by show t2.r = _; rw [hnx]) HAr.out.ov HAr.out.vi E1.out ⟨E2.out.1, E2.out.2.1, by show t2.qs ++ _ = _; rw [hnx, E2.out.2.2]⟩ (by have h := HAl.out; rw [List.set_set] at h; exact h) HB6.out.asc HB6.out.tbs HA.out (by show _ = (stepOf _ t2.r.at').asks; rw [hnx, HSe.out]) (by have h := HI6.out; rw [E1.out] at h; rw [hnx]; exact h)
        exact ⟨rfl, ts', d', dc', f', ws', HB6.out, z1, z2⟩
      · rw [hfin] at q5
        have HS6 : Hid (∀ w', Kept w5 w' → w'.cell? ⟨gb, 6, none⟩ = some (.bool s.bad) ∧ w'.cell? ⟨gb, 7, none⟩ = some (.string s.give) ∧ w'.cell? ⟨t.tb, 6, none⟩ = some (t2.tv)) := fun w' K => ⟨(K.cell gz).trans (HR2.out 6 _ rfl), (K.cell gz).trans (HR2.out 7 _ rfl), by rw [← E1.out]; exact ((HB5.out.kept K).at HI2.out).rng 6 _ rfl⟩
        obtain ⟨ta, tc, htv⟩ := own_slice (HB5.out.at HI2.out).txt
        have Htv := hide htv
        have HCp : Hid (t2.r.texts.length ≤ tc ∧ ∀ W, Kept w5 W → Strs W ta t2.r.texts) := by
          refine ⟨?_, fun W K => ?_⟩
          · have h1 := (HB5.out.at HI2.out).txt
            rw [htv] at h1
            rcases h1.2 with ⟨e, h0⟩ | ⟨g, cp, cur, e, _, _, hnc, _⟩
            · omega
            · simp only [Value.slice.injEq] at e; omega
          · obtain ⟨a9, c9, e9, h9⟩ := owned_strs ((HB5.out.kept K).at HI2.out).txt
            rw [htv] at e9
            simp only [Value.slice.injEq] at e9
            rw [e9.1]
            exact h9
        clear htv
        go_upto_region 6 with fail
        refine UpTo.rg 12 HS6.out fun wd KD hHeld => ?_
        refine UpTo.tk 0 hHeld ?_
        refine UpTo.tk 1 hHeld ?_
        refine UpTo.tk 2 hHeld ?_
        refine UpTo.tk 3 hHeld ?_
        refine UpTo.tk 4 hHeld ?_
        refine UpTo.tk 5 hHeld ?_
        refine UpTo.tk 6 hHeld ?_
        refine UpTo.tk 7 hHeld ?_
        refine UpTo.tk 8 hHeld ?_
        refine UpTo.tk 9 hHeld ?_
        refine UpTo.tk 10 hHeld ?_
        refine UpTo.nx 11 (fun K hK => ?_)
        rw [if_pos (by rfl)]
        go_simp
        go_at_call 60
        rw [Htv.out]
        refine (hFi wd s.give ta tc t2.r.texts (HB2.out.kw.trans (HK2.out.trans KD)) hgiv (by unfold maxLen; omega) (HCp.out.2 _ KD) HCp.out.1).mono ?_
        rintro e w6 ⟨rfl, k6⟩
        have K6 := KD.trans k6
        refine hK.out _ _ (fun _ => HS6.out _ K6) ?_
        clear hK K hHeld
        try simp only [Act.put, upA, upB, upC]
        refine UpTo.nx 12 (fun K hK => ?_)
        rw [if_pos (by rfl)]
        go_simp
        go_at_call 58
        have hnm2 := HAr.out.nm
        have hEn := benchEnd_any (HB5.out.kept K6) HI2.out s.bad (finB s.give t2.r.texts) (by rw [hnm2]; exact hnsz) (by rw [hnm2]; omega) (fun b hb => by
          rw [hnm2] at hb
          obtain ⟨j, u, hji, hju, h3, h4, h5⟩ := HWt.out b hb
          exact ⟨j, u, by rw [List.getElem?_set_ne (Ne.symm hji), List.getElem?_set_ne (Ne.symm hji)]; exact hju, h3, h4, h5⟩) (by rw [hnm2]; exact HS.out.wn _)
        rw [E1.out, hnm2] at hEn
        refine hEn.mono ?_
        rintro e wF ⟨rfl, hBF⟩
        rw [List.set_set] at hBF
        have HBF := hide hBF
        clear hBF hEn hnm2
        refine hK.out _ _ (fun h => absurd rfl h) ?_
        clear hK K
        try simp only [Act.put, upA, upB, upC]
        refine UpTo.dn ?_
        go_wp2_with fail
        refine bodyPost_ret (results_none rfl _ _ _) rfl ?_
        have hnx := HAr.out.nx
        rw [← HSe.out, hfin] at hnx
        simp only [if_true] at hnx
        have hno : s.asks = [] := step_end_asks hok HA.out HAr.out.lo HAr.out.hi HSe.out hfin
        obtain ⟨z1, z2⟩ := HS.out.ended hok HB.out.tbs (t' := t2.ended s.bad (finB s.give t2.r.texts)) HI.out HC.out (by rw [hnx]; rfl) rfl (by rw [hnx]; exact hno) E1.out E2.out.1 (.inl ⟨E2.out.2.1.trans ((HS.out.bl t (List.mem_of_getElem? HI.out)).open HC.out.1), fun _ _ => .inr ⟨⟨t.cost, t.steps⟩, by show actsOf webl t2.r.name = _; rw [HAr.out.nm]; exact HA.out, by show (stepOf ⟨t.cost, t.steps⟩ t2.r.at').fin = true; rw [← HSe.out]; exact hfin⟩⟩) E2.out.2.2
        exact ⟨rfl, _, d, dc, _, _, HBF.out.more (by omega), z1, z2⟩
end
end Go.Proofs.YtjhemildijapmaaGreatDoor
namespace Go.Proofs.YtjhemildijapmaaGreatDoor
open Go.RowKit
theorem rises_code {l : List NodeD} (h : WebCode l 0) : Rises l := by
  have hn : ¬ SomeFalls l := by
    rcases h with ⟨_, e⟩ | ⟨_, _, e⟩ | ⟨_, _, _, e⟩ | ⟨_, _, _, _, e⟩ | ⟨_, _, h3, _, _⟩
    · omega
    · omega
    · omega
    · omega
    · exact h3
  refine rises_of fun i hi => ?_
  cases hq : Op.bytesLess (nameAt l i) (nameAt l (i + 1))
  · exact absurd ⟨i, hi, hq⟩ hn
  · rfl
structure BegI (webl : List NodeD) (L : List ByteArray) (ts : List TaskM) : Prop where
  env : ∀ n, envOf (runsOf ts) n = if hasN L n = true ∧ (actsOf webl n).isSome = true then some (RunX.fresh n) else none
  fr : ∀ t ∈ ts, t.r = RunX.fresh t.r.name ∧ t.op = 0 ∧ t.bq = (⟨#[]⟩, [])
theorem BegI.nil (webl : List NodeD) : BegI webl [] [] := ⟨fun n => by rw [if_neg (by simp [hasN])]; rfl, fun t h => by cases h⟩
theorem BegI.want {webl : List NodeD} {L : List ByteArray} {ts ts' : List TaskM} {n : ByteArray} (h : BegI webl L ts) (ha : AscX (runsOf ts)) (ha' : AscX (runsOf ts')) (hw : WantR webl ts n ts') : BegI webl (L ++ [n]) ts' := by
  have hL : ∀ m, hasN (L ++ [n]) m = true ↔ hasN L m = true ∨ m = n := fun m => by simp [hasN_iff]
  rcases hw with ⟨rfl, hw⟩ | ⟨p, new, rfl, hr, hop, hno, hsome⟩
  · refine ⟨fun m => ?_, h.fr⟩
    rw [h.env m]
    by_cases hc : hasN L m = true ∧ (actsOf webl m).isSome = true
    · rw [if_pos hc, if_pos ⟨(hL m).2 (.inl hc.1), hc.2⟩]
    · rw [if_neg hc, if_neg]
      rintro ⟨h1, h2⟩
      rcases (hL m).1 h1 with g | g
      · exact hc ⟨g, h2⟩
      · subst g
        rcases hw with hw | ⟨t, ht, e⟩
        · rw [hw] at h2; cases h2
        · have := h.env m
          rw [if_neg hc] at this
          exact env_none_iff.1 this t ht e
  · have hmem : ∀ u, u ∈ ts.take p ++ new :: ts.drop p ↔ u = new ∨ u ∈ ts := fun u => by
      rw [List.mem_append, List.mem_cons]
      constructor
      · rintro (h | h | h)
        · exact .inr (List.mem_of_mem_take h)
        · exact .inl h
        · exact .inr (List.mem_of_mem_drop h)
      · rintro (h | h)
        · exact .inr (.inl h)
        · rw [← List.take_append_drop p ts] at h
          rcases List.mem_append.1 h with h | h
          · exact .inl h
          · exact .inr (.inr h)
    refine ⟨fun m => ?_, fun u hu => ?_⟩
    · by_cases e : m = n
      · subst e
        rw [if_pos ⟨(hL m).2 (.inr rfl), hsome⟩]
        have := asc_env ha' (r := new.r) (List.mem_map_of_mem ((hmem new).2 (.inl rfl)))
        rw [hr] at this
        exact this
      · have e1 : envOf (runsOf (ts.take p ++ new :: ts.drop p)) m = envOf (runsOf ts) m := by
          cases h1 : envOf (runsOf ts) m with
          | some x =>
            obtain ⟨g1, g2⟩ := env_mem h1
            obtain ⟨u, hu, rfl⟩ := List.mem_map.1 g1
            have := asc_env ha' (r := u.r) (List.mem_map_of_mem ((hmem u).2 (.inr hu)))
            rw [g2] at this
            exact this
          | none =>
            rw [env_none_iff] at h1 ⊢
            intro u hu
            rcases (hmem u).1 hu with rfl | hu
            · rw [hr]; exact fun e2 => e e2.symm
            · exact h1 u hu
        rw [e1, h.env m]
        by_cases hc : hasN L m = true ∧ (actsOf webl m).isSome = true
        · rw [if_pos hc, if_pos ⟨(hL m).2 (.inl hc.1), hc.2⟩]
        · rw [if_neg hc, if_neg]
          rintro ⟨h1, h2⟩
          rcases (hL m).1 h1 with g | g
          · exact hc ⟨g, h2⟩
          · exact e g
    · rcases (hmem u).1 hu with rfl | hu
      · exact ⟨by rw [hr]; rfl, hop⟩
      · exact h.fr u hu
theorem BegI.done {webl : List NodeD} {roots : List ByteArray} {ts : List TaskM} (h : BegI webl roots ts) (hok : ActsOk (actsOf webl)) (ha : AscX (runsOf ts)) : BS webl ts (fun _ => []) ∧ envOf (runsOf ts) = envOf (startL webl roots) := by
  refine ⟨⟨⟨ha, fun r hr => ?_⟩, fun t ht => ?_, fun s t ht => ?_, fun _ => List.nodup_nil, fun s b hb => (by cases hb), fun t ht => BlOk.still (congrArg Prod.fst (h.fr t ht).2.2) (by rw [(h.fr t ht).1]; rfl), fun t ht => QsOk.still (congrArg Prod.snd (h.fr t ht).2.2) (h.fr t ht).1⟩, ?_⟩
  · have h1 := asc_env ha hr
    rw [h.env] at h1
    split at h1
    · rename_i h2
      have e2 : RunX.fresh r.name = r := Option.some.inj h1
      rw [← e2]
      exact fresh_good hok h2.2
    · cases h1
  · obtain ⟨h1, h2⟩ := h.fr t ht
    rw [h1, pend_fresh, h2.1]
    rfl
  · obtain ⟨h1, _⟩ := h.fr t ht
    rw [h1, pend_fresh]
    simp
  · funext n
    rw [h.env n, startL_env]
theorem BM.begun {webl : List NodeD} {w3 : World} {a : Option Addr} {cap : Nat} {rd : Option Addr} {rn rc : Nat} (hrb : RowT ((w3.alloc (.map #[] 0)).alloc (.cells #[.slice a webl.length cap, .func (.func 117) #[] #[], .slice rd rn rc, .slice none 0 0, .func (.func 88) #[] #[], .map (some w3.heap.size)] 114)) (w3.heap.size + 1) 114 6) (hcb : ((w3.alloc (.map #[] 0)).alloc (.cells #[.slice a webl.length cap, .func (.func 117) #[] #[], .slice rd rn rc, .slice none 0 0, .func (.func 88) #[] #[], .map (some w3.heap.size)] 114)).rangeAt (w3.heap.size + 1) 0 [.slice a webl.length cap, .func (.func 117) #[] #[], .slice rd rn rc, .slice none 0 0, .func (.func 88) #[] #[], .map (some w3.heap.size)]) :
    BM (Ghost.no w3) webl w3 ((w3.alloc (.map #[] 0)).alloc (.cells #[.slice a webl.length cap, .func (.func 117) #[] #[], .slice rd rn rc, .slice none 0 0, .func (.func 88) #[] #[], .map (some w3.heap.size)] 114)) (w3.heap.size + 1) a cap rd rn rc w3.heap.size 0 [] none 0 (fun _ => .slice none 0 0) (fun _ => []) :=
  ⟨((Kept.refl _).alloc _).alloc _, hrb, hcb 0 _ rfl, hcb 1 _ rfl, hcb 2 _ rfl, hcb 3 _ rfl, hcb 4 _ rfl, hcb 5 _ rfl, Nat.le_succ _, World.ownsRow_nil _ _ _ _, fun t h => (by cases h), fun t h => (by cases h), List.Pairwise.nil, List.nodup_nil, List.Pairwise.nil, fun t h => (by cases h), ⟨0, .map [], Nat.le_refl _, (World.ownsMap_made w3 Tryz.prog 9 asIs).alloc _, fun s _ => rfl⟩, Nat.le_refl _, fun s => World.ownsRow_nil _ _ _ _, fun s s' _ x h => (by cases h), fun s x h => (by cases h), fun t h => (by cases h), Fen.no (by simp only [World.size_alloc]; omega)⟩
def BeginB (webl : List NodeD) (roots : List ByteArray) (a : Option Addr) (cap : Nat) (rd : Option Addr) (rc : Nat) (w w' : World) (e : Ending) : Prop :=
  Kept w w' ∧ ((¬ (WebCode webl 0 ∧ RootsOk roots) ∧ e = .returned (.tuple #[.pointer none, .bool false])) ∨
    (WebCode webl 0 ∧ RootsOk roots ∧ ∃ wz bb mb ts d dc, e = .returned (.tuple #[.pointer (some ⟨bb, 0, none⟩), .bool true]) ∧ Kept w wz ∧ BM (Ghost.no wz) webl wz w' bb a cap rd roots.length rc mb 0 ts d dc (fun _ => .slice none 0 0) (fun _ => []) ∧ BS webl ts (fun _ => []) ∧ envOf (runsOf ts) = envOf (startL webl roots)))
set_option maxRecDepth 100000 in
set_option maxHeartbeats 3200000 in
theorem beginB_any (w : World) (a : Option Addr) (cap : Nat) (webl : List NodeD) (rd : Option Addr) (rc : Nat) (roots : List ByteArray) (hl : webl.length ≤ 1048576) (hf : ∀ s ∈ webl, s.Fits) (hrl : roots.length ≤ maxLen) (hrc : roots.length ≤ rc) (hrs : ∀ s ∈ roots, s.size ≤ maxLen) (hS : Nodes w a webl) (hR : Strs w rd roots) :
    Calls Tryz.prog 51 #[.agg #[.slice a webl.length cap], .slice rd roots.length rc] w fun e w' => BeginB webl roots a cap rd rc w w' e := by
  have hl' : webl.length ≤ maxLen := by unfold maxLen; omega
  go_enter Tryz.func51, Tryz.ntmps51
  go_wp2_with fail
  refine (implCheckWeb_any ascSaid _ a cap webl hl' hf (hS.kept (by repeat (first | apply Kept.alloc | exact Kept.refl _)))).mono ?_
  rintro e w1 ⟨⟨c, rfl, hc⟩, k1⟩
  have K1 : Kept w w1 := Kept.trans ((Kept.refl _).alloc _) k1
  have z1 := k1.size
  simp only [World.size_alloc] at z1
  have q0 := xBoxCell (w := w) k1
  have HC := hide hc
  clear hc k1
  have hw1 : w.heap.size < w1.heap.size := by omega
  by_cases hc0 : c = 0
  · subst hc0
    go_wp2_with fail
    refine (validRoots_any _ rd rc roots hrl hrc hrs (hR.kept K1)).mono ?_
    rintro e w2 ⟨hsay, k2⟩
    have q2 := (k2.cell (o := 0) hw1).trans q0
    have K2 := K1.trans k2
    have z2 := k2.size
    clear q0 K1 k2
    have hw2 : w.heap.size < w2.heap.size := by omega
    rcases hsay.cases with ⟨rfl, hyes⟩ | ⟨rfl, hno⟩
    · have HY := hide hyes
      clear hyes hsay
      go_wp2_with fail
      refine (listOf_any _ a webl.length cap).mono ?_
      rintro e w3 ⟨rfl, k3⟩
      have K3 := K2.trans k3
      have z3 := k3.size
      clear q2 k3 K2
      have hmm : (Instr.makeMap 112 none).run Tryz.prog w3 = .ok (.map (some w3.heap.size)) (w3.alloc (.map #[] 0)) := rfl
      go_wp2
      clear hmm
      have KB : Kept w ((w3.alloc (.map #[] 0)).alloc (.cells #[.slice a webl.length cap, .func (.func 117) #[] #[], .slice rd roots.length rc, .slice none 0 0, .func (.func 88) #[] #[], .map (some w3.heap.size)] 114)) := (K3.alloc _).alloc _
      have hcb := range_new (w3.alloc (.map #[] 0)) #[.slice a webl.length cap, .func (.func 117) #[] #[], .slice rd roots.length rc, .slice none 0 0, .func (.func 88) #[] #[], .map (some w3.heap.size)] 114
      simp only [World.size_alloc] at hcb
      have hrb := RowT.made (w3.alloc (.map #[] 0)) #[.slice a webl.length cap, .func (.func 117) #[] #[], .slice rd roots.length rc, .slice none 0 0, .func (.func 88) #[] #[], .map (some w3.heap.size)] 114
      simp only [World.size_alloc] at hrb
      have hSt0 : BM (Ghost.no w3) webl w3 ((w3.alloc (.map #[] 0)).alloc (.cells #[.slice a webl.length cap, .func (.func 117) #[] #[], .slice rd roots.length rc, .slice none 0 0, .func (.func 88) #[] #[], .map (some w3.heap.size)] 114)) (w3.heap.size + 1) a cap rd roots.length rc w3.heap.size 0 [] none 0 (fun _ => .slice none 0 0) (fun _ => []) := BM.begun hrb hcb
      have HSt0 := hide hSt0
      have HKB := hide KB
      clear hcb hrb hSt0 KB
      have hwl6 := web_len HC.out
      go_loopw [29] (fun i wr => ∃ (k : Nat) (ts : List TaskM) (d : Option Addr) (dc : Nat), k ≤ roots.length ∧ i = .int .i64 k ∧ BM (Ghost.no w3) webl w3 wr (w3.heap.size + 1) a cap rd roots.length rc w3.heap.size 0 ts d dc (fun _ => .slice none 0 0) (fun _ => []) ∧ BegI webl (roots.take k) ts) (fun i _ => roots.length - (intOf i).toNat)
      case atStart => exact ⟨0, [], none, 0, Nat.zero_le _, rfl, HSt0.out, BegI.nil webl⟩
      case round =>
        obtain ⟨k, ts, d, dc, hk, rfl, hSt, hBe⟩ := hrel
        have hts := hSt.len hwl6
        have hk10 : roots.length ≤ 10 := HY.out.2.1
        by_cases hlt : k < roots.length
        · obtain ⟨b, o, rfl, hb, hc⟩ := hR k hlt
          obtain ⟨v, hv⟩ : ∃ v, v = roots.getD k ByteArray.empty := ⟨_, rfl⟩
          rw [← hv] at hc
          have c0 : wr.cell? ⟨b, o + k, none⟩ = some (.string v) := ((K3.trans hSt.kw).cell hb).trans hc
          have htk : Hid (roots.take (k + 1) = roots.take k ++ [v]) := by show _ = _; rw [List.take_succ_eq_append_getElem hlt, hv]; simp [List.getD, hlt]
          have HW := hide (benchWant_b hSt v (by omega) hl (rises_code HC.out) (hS.kept K3))
          have HAs := hide hSt.asc
          have HBe := hide hBe
          have i0 : (k : Int) < (roots.length : Int) := by omega
          clear hv hSt hBe hc
          go_wp2_with fail
          refine (unhide HW).mono ?_
          rintro e w5 ⟨rfl, ts5, d5, dc5, hSt5, hw5⟩
          have HSt5 := hide hSt5
          have HB5 := hide (HBe.out.want HAs.out hSt5.asc hw5)
          clear hSt5 hw5
          go_wp2
          go_roundw
          case rel => exact ⟨k + 1, ts5, d5, dc5, by omega, by go_num, HSt5.out, by rw [htk.out]; exact HB5.out⟩
          case measure => simp [intOf]; omega
        · have hkl : k = roots.length := by omega
          subst hkl
          rw [List.take_length] at hBe
          have HSt2 := hide hSt
          have HBe := hide hBe
          clear hSt hBe
          go_wp2
          go_ret2
          exact ⟨K3.trans HSt2.out.kw, .inr ⟨HC.out, HY.out, w3, _, _, ts, d, dc, rfl, K3, HSt2.out, (HBe.out.done (web_acts HC.out) HSt2.out.asc).1, (HBe.out.done (web_acts HC.out) HSt2.out.asc).2⟩⟩
    · have HY := hide hno
      clear hno hsay
      go_wp2
      go_ret2
      exact ⟨K2, .inl ⟨fun h => HY.out h.2, rfl⟩⟩
  · have hcb : (c == 0) = false := by simpa using hc0
    go_wp2
    go_ret2
    exact ⟨K1, .inl ⟨fun h => hc0 (HC.out.unique h.1), rfl⟩⟩
theorem runName_any (w : World) (x1 x2 x3 x4 x5 x6 x7 : Value) (s : ByteArray) (hx : x1 = .string s) :
    Calls Tryz.prog 52 #[.agg #[x1, x2, x3, x4, x5, x6, x7]] w fun e w' => e = .returned (.string s) ∧ Kept w w' := by
  subst hx
  go_enter Tryz.func52, Tryz.ntmps52
  go_wp2
  go_ret
  exact ⟨rfl, (Kept.refl _).alloc _⟩
def RiseX (l : List RunX) (k : Nat) : Prop := ∀ j, j + 1 < k → lessX (l.getD j RunX.zero).name (l.getD (j + 1) RunX.zero).name
theorem asc_of_rise {l : List RunX} (h : RiseX l l.length) : AscX l := by
  have h2 : ∀ i j, i < j → j < l.length → lessX (l.getD i RunX.zero).name (l.getD j RunX.zero).name := by
    intro i j hij
    induction j with
    | zero => intro _; omega
    | succ j ih =>
      intro hj
      by_cases e : i = j
      · subst e; exact h i hj
      · exact lessX_trans (ih (by omega) (by omega)) (h j hj)
  unfold AscX
  rw [List.pairwise_iff_getElem]
  intro i j hi hj hij
  have := h2 i j hij hj
  simpa [List.getD, hi, hj] using this
theorem rise_of_asc {l : List RunX} (h : AscX l) : RiseX l l.length := fun j hj => by
  have := List.pairwise_iff_getElem.1 h j (j + 1) (by omega) hj (by omega)
  simpa [List.getD, hj, (by omega : j < l.length)] using this
set_option maxRecDepth 100000 in
set_option maxHeartbeats 3200000 in
theorem ascendR_any (w : World) (a : Option Addr) (cap : Nat) (l : List RunX) (hl : l.length ≤ 1048576) (hS : RunsX w a l) :
    Calls Tryz.prog 53 #[.agg #[.slice a l.length cap, .func (.func 52) #[] #[]]] w fun e w' => Says e (AscX l) ∧ Kept w w' := by
  have k0 : Kept w (w.alloc (.cells #[.slice a l.length cap, .func (.func 52) #[] #[]] 101)) := (Kept.refl _).alloc _
  go_enter Tryz.func53, Tryz.ntmps53
  go_wp2
  go_loopw [3] (fun i wr => ∃ n : Nat, 1 ≤ n ∧ n ≤ l.length + 1 ∧ i = .int .i64 n ∧ Kept (w.alloc (.cells #[.slice a l.length cap, .func (.func 52) #[] #[]] 101)) wr ∧ RiseX l n) (fun i _ => l.length + 2 - (intOf i).toNat)
  case atStart => exact ⟨1, by omega, by omega, rfl, Kept.refl _, fun j hj => absurd hj (by omega)⟩
  case round =>
    obtain ⟨n, hn1, hn2, rfl, hw, hg⟩ := hrel
    have HG := hide hg
    clear hg
    have hz1 := hw.size
    simp only [World.size_alloc] at hz1
    have z0 : w.heap.size < wr.heap.size := by omega
    obtain ⟨p0, p1⟩ := xBoxCells2 hw
    by_cases hlt : n < l.length
    · have k1 : Kept w wr := k0.trans hw
      obtain ⟨b, o, aa, ca, rfl, hb, hc, _, _⟩ := hS.kept k1 (n - 1) (by omega)
      obtain ⟨b', o', ba, da, e', hb', hc', _, _⟩ := hS.kept k1 n hlt
      simp only [Option.some.injEq, Addr.mk.injEq, and_true] at e'
      obtain ⟨rfl, rfl⟩ := e'
      obtain ⟨x, hxk⟩ : ∃ x, x = (l.getD (n - 1) RunX.zero) := ⟨_, rfl⟩
      obtain ⟨y, hyk⟩ : ∃ y, y = (l.getD n RunX.zero) := ⟨_, rfl⟩
      rw [← hxk] at hc
      rw [← hyk] at hc'
      have HX : Hid (l.getD (n - 1) RunX.zero = x) := hxk.symm
      have HYK : Hid (l.getD (n - 1 + 1) RunX.zero = y) := by rw [hyk, show n - 1 + 1 = n by omega]; exact rfl
      clear hxk hyk
      have c0 : wr.cell? ⟨b, o + (n - 1) * 7, none⟩ = some (.string x.name) := hc 0 _ rfl
      have c1 : wr.cell? ⟨b, o + (n - 1) * 7 + 1, none⟩ = some (.bool x.over) := hc 1 _ rfl
      have c2 : wr.cell? ⟨b, o + (n - 1) * 7 + 2, none⟩ = some (.bool x.fail) := hc 2 _ rfl
      have c3 : wr.cell? ⟨b, o + (n - 1) * 7 + 3, none⟩ = some (.string x.text) := hc 3 _ rfl
      have c4 : wr.cell? ⟨b, o + (n - 1) * 7 + 4, none⟩ = some (.int .i64 x.at') := hc 4 _ rfl
      have c5 : wr.cell? ⟨b, o + (n - 1) * 7 + 5, none⟩ = some (.int .i64 x.visits) := hc 5 _ rfl
      have c6 : wr.cell? ⟨b, o + (n - 1) * 7 + 6, none⟩ = some (.slice aa x.texts.length ca) := hc 6 _ rfl
      have d0 : wr.cell? ⟨b, o + n * 7, none⟩ = some (.string y.name) := hc' 0 _ rfl
      have d1 : wr.cell? ⟨b, o + n * 7 + 1, none⟩ = some (.bool y.over) := hc' 1 _ rfl
      have d2 : wr.cell? ⟨b, o + n * 7 + 2, none⟩ = some (.bool y.fail) := hc' 2 _ rfl
      have d3 : wr.cell? ⟨b, o + n * 7 + 3, none⟩ = some (.string y.text) := hc' 3 _ rfl
      have d4 : wr.cell? ⟨b, o + n * 7 + 4, none⟩ = some (.int .i64 y.at') := hc' 4 _ rfl
      have d5 : wr.cell? ⟨b, o + n * 7 + 5, none⟩ = some (.int .i64 y.visits) := hc' 5 _ rfl
      have d6 : wr.cell? ⟨b, o + n * 7 + 6, none⟩ = some (.slice ba y.texts.length da) := hc' 6 _ rfl
      clear hc hc'
      have i0 : (0 : Int) ≤ (n : Int) - 1 := by omega
      have i1 : (n : Int) - 1 < (l.length : Int) := by omega
      have i2 : (n : Int) < (l.length : Int) := by omega
      have i5 : (1 : Int) ≤ (n : Int) := by omega
      have i6 : (n : Int) ≤ (l.length : Int) := by omega
      have i7 : n ≤ l.length := by omega
      have i3 : ((n : Int) - 1).toNat = n - 1 := by omega
      have i4 : IntKind.i64.wrap ((n : Int) - 1) = (n : Int) - 1 := wrap_i64_in (by omega) (by omega)
      have hSof : ∀ w', Kept wr w' → (fun w' => w'.cell? ⟨b, o + (n - 1) * 7, none⟩ = some (.string x.name) ∧ w'.cell? ⟨b, o + (n - 1) * 7 + 1, none⟩ = some (.bool x.over) ∧ w'.cell? ⟨b, o + (n - 1) * 7 + 2, none⟩ = some (.bool x.fail) ∧ w'.cell? ⟨b, o + (n - 1) * 7 + 3, none⟩ = some (.string x.text) ∧ w'.cell? ⟨b, o + (n - 1) * 7 + 4, none⟩ = some (.int .i64 x.at') ∧ w'.cell? ⟨b, o + (n - 1) * 7 + 5, none⟩ = some (.int .i64 x.visits) ∧ w'.cell? ⟨b, o + (n - 1) * 7 + 6, none⟩ = some (.slice aa x.texts.length ca) ∧ w'.cell? ⟨b, o + n * 7, none⟩ = some (.string y.name) ∧ w'.cell? ⟨b, o + n * 7 + 1, none⟩ = some (.bool y.over) ∧ w'.cell? ⟨b, o + n * 7 + 2, none⟩ = some (.bool y.fail) ∧ w'.cell? ⟨b, o + n * 7 + 3, none⟩ = some (.string y.text) ∧ w'.cell? ⟨b, o + n * 7 + 4, none⟩ = some (.int .i64 y.at') ∧ w'.cell? ⟨b, o + n * 7 + 5, none⟩ = some (.int .i64 y.visits) ∧ w'.cell? ⟨b, o + n * 7 + 6, none⟩ = some (.slice ba y.texts.length da) ∧ w'.cell? ⟨w.heap.size, 0, none⟩ = some (.slice (some ⟨b, o, none⟩) l.length cap) ∧ w'.cell? ⟨w.heap.size, 1, none⟩ = some (.func (.func 52) #[] #[])) w' := fun w' kk => ⟨(Kept.cell kk hb).trans c0, (Kept.cell kk hb).trans c1, (Kept.cell kk hb).trans c2, (Kept.cell kk hb).trans c3, (Kept.cell kk hb).trans c4, (Kept.cell kk hb).trans c5, (Kept.cell kk hb).trans c6, (Kept.cell kk hb).trans d0, (Kept.cell kk hb).trans d1, (Kept.cell kk hb).trans d2, (Kept.cell kk hb).trans d3, (Kept.cell kk hb).trans d4, (Kept.cell kk hb).trans d5, (Kept.cell kk hb).trans d6, (Kept.cell kk z0).trans p0, (Kept.cell kk z0).trans p1⟩
      have HSO := hide hSof
      clear hSof
      cases hbl : Op.bytesLess x.name.toList y.name.toList
      · have hge : True := trivial
        go_upto_region 4 with fail
        refine UpTo.region (by kernel_rfl) (fun w' => w'.cell? ⟨b, o + (n - 1) * 7, none⟩ = some (.string x.name) ∧ w'.cell? ⟨b, o + (n - 1) * 7 + 1, none⟩ = some (.bool x.over) ∧ w'.cell? ⟨b, o + (n - 1) * 7 + 2, none⟩ = some (.bool x.fail) ∧ w'.cell? ⟨b, o + (n - 1) * 7 + 3, none⟩ = some (.string x.text) ∧ w'.cell? ⟨b, o + (n - 1) * 7 + 4, none⟩ = some (.int .i64 x.at') ∧ w'.cell? ⟨b, o + (n - 1) * 7 + 5, none⟩ = some (.int .i64 x.visits) ∧ w'.cell? ⟨b, o + (n - 1) * 7 + 6, none⟩ = some (.slice aa x.texts.length ca) ∧ w'.cell? ⟨b, o + n * 7, none⟩ = some (.string y.name) ∧ w'.cell? ⟨b, o + n * 7 + 1, none⟩ = some (.bool y.over) ∧ w'.cell? ⟨b, o + n * 7 + 2, none⟩ = some (.bool y.fail) ∧ w'.cell? ⟨b, o + n * 7 + 3, none⟩ = some (.string y.text) ∧ w'.cell? ⟨b, o + n * 7 + 4, none⟩ = some (.int .i64 y.at') ∧ w'.cell? ⟨b, o + n * 7 + 5, none⟩ = some (.int .i64 y.visits) ∧ w'.cell? ⟨b, o + n * 7 + 6, none⟩ = some (.slice ba y.texts.length da) ∧ w'.cell? ⟨w.heap.size, 0, none⟩ = some (.slice (some ⟨b, o, none⟩) l.length cap) ∧ w'.cell? ⟨w.heap.size, 1, none⟩ = some (.func (.func 52) #[] #[])) 17 (HSO.out _ ((Kept.refl wr).drew)) (fun hHeld => ?_)
        have KD : Kept wr wr.drew := (Kept.refl wr).drew
        generalize hwd : wr.drew = wd at hHeld KD ⊢
        clear hwd
        refine UpTo.tk 0 hHeld ?_
        refine UpTo.tk 1 hHeld ?_
        refine UpTo.tk 2 hHeld ?_
        refine UpTo.tk 3 hHeld ?_
        refine UpTo.tk 4 hHeld ?_
        refine UpTo.tk 5 hHeld ?_
        refine UpTo.tk 6 hHeld ?_
        refine UpTo.tk 7 hHeld ?_
        refine UpTo.tk 9 hHeld ?_
        refine UpTo.tk 10 hHeld ?_
        refine UpTo.tk 11 hHeld ?_
        refine UpTo.tk 12 hHeld ?_
        refine UpTo.tk 13 hHeld ?_
        refine UpTo.tk 14 hHeld ?_
        refine UpTo.tk 15 hHeld ?_
        refine UpTo.nx 8 (fun K hK => ?_)
        rw [if_pos (by rfl)]
        go_simp
        go_at_call 52
        refine (runName_any _ _ _ _ _ _ _ _ _ rfl).mono ?_
        rintro e w1 ⟨rfl, hw1⟩
        have K1 := KD.trans hw1
        refine hK.out _ _ (fun _ => HSO.out _ K1) ?_
        clear hK K hHeld
        try simp only [Act.put, upA, upB, upC]
        refine UpTo.nx 16 (fun K hK => ?_)
        rw [if_pos (by rfl)]
        go_simp
        go_at_call 52
        refine (runName_any _ _ _ _ _ _ _ _ _ rfl).mono ?_
        rintro e w2 ⟨rfl, hw2⟩
        have kk := K1.trans hw2
        refine hK.out _ _ (fun _ => HSO.out _ kk) ?_
        clear hK K
        try simp only [Act.put, upA, upB, upC]
        refine UpTo.nx 17 (fun K hK => ?_)
        go_simp
        refine hK.out _ _ (fun h => absurd rfl h) ?_
        clear hK K
        try simp only [Act.put, upA, upB, upC]
        refine UpTo.dn ?_
        try dsimp only
        have kf := hw.trans kk
        go_wp2
        go_ret
        exact ⟨Says.no fun h => (by have h3 := rise_of_asc h (n - 1) (by omega); unfold lessX at h3; rw [HX.out, HYK.out, hbl] at h3; cases h3), k0.trans kf⟩
      · have hge : True := trivial
        go_upto_region 4 with fail
        refine UpTo.region (by kernel_rfl) (fun w' => w'.cell? ⟨b, o + (n - 1) * 7, none⟩ = some (.string x.name) ∧ w'.cell? ⟨b, o + (n - 1) * 7 + 1, none⟩ = some (.bool x.over) ∧ w'.cell? ⟨b, o + (n - 1) * 7 + 2, none⟩ = some (.bool x.fail) ∧ w'.cell? ⟨b, o + (n - 1) * 7 + 3, none⟩ = some (.string x.text) ∧ w'.cell? ⟨b, o + (n - 1) * 7 + 4, none⟩ = some (.int .i64 x.at') ∧ w'.cell? ⟨b, o + (n - 1) * 7 + 5, none⟩ = some (.int .i64 x.visits) ∧ w'.cell? ⟨b, o + (n - 1) * 7 + 6, none⟩ = some (.slice aa x.texts.length ca) ∧ w'.cell? ⟨b, o + n * 7, none⟩ = some (.string y.name) ∧ w'.cell? ⟨b, o + n * 7 + 1, none⟩ = some (.bool y.over) ∧ w'.cell? ⟨b, o + n * 7 + 2, none⟩ = some (.bool y.fail) ∧ w'.cell? ⟨b, o + n * 7 + 3, none⟩ = some (.string y.text) ∧ w'.cell? ⟨b, o + n * 7 + 4, none⟩ = some (.int .i64 y.at') ∧ w'.cell? ⟨b, o + n * 7 + 5, none⟩ = some (.int .i64 y.visits) ∧ w'.cell? ⟨b, o + n * 7 + 6, none⟩ = some (.slice ba y.texts.length da) ∧ w'.cell? ⟨w.heap.size, 0, none⟩ = some (.slice (some ⟨b, o, none⟩) l.length cap) ∧ w'.cell? ⟨w.heap.size, 1, none⟩ = some (.func (.func 52) #[] #[])) 17 (HSO.out _ ((Kept.refl wr).drew)) (fun hHeld => ?_)
        have KD : Kept wr wr.drew := (Kept.refl wr).drew
        generalize hwd : wr.drew = wd at hHeld KD ⊢
        clear hwd
        refine UpTo.tk 0 hHeld ?_
        refine UpTo.tk 1 hHeld ?_
        refine UpTo.tk 2 hHeld ?_
        refine UpTo.tk 3 hHeld ?_
        refine UpTo.tk 4 hHeld ?_
        refine UpTo.tk 5 hHeld ?_
        refine UpTo.tk 6 hHeld ?_
        refine UpTo.tk 7 hHeld ?_
        refine UpTo.tk 9 hHeld ?_
        refine UpTo.tk 10 hHeld ?_
        refine UpTo.tk 11 hHeld ?_
        refine UpTo.tk 12 hHeld ?_
        refine UpTo.tk 13 hHeld ?_
        refine UpTo.tk 14 hHeld ?_
        refine UpTo.tk 15 hHeld ?_
        refine UpTo.nx 8 (fun K hK => ?_)
        rw [if_pos (by rfl)]
        go_simp
        go_at_call 52
        refine (runName_any _ _ _ _ _ _ _ _ _ rfl).mono ?_
        rintro e w1 ⟨rfl, hw1⟩
        have K1 := KD.trans hw1
        refine hK.out _ _ (fun _ => HSO.out _ K1) ?_
        clear hK K hHeld
        try simp only [Act.put, upA, upB, upC]
        refine UpTo.nx 16 (fun K hK => ?_)
        rw [if_pos (by rfl)]
        go_simp
        go_at_call 52
        refine (runName_any _ _ _ _ _ _ _ _ _ rfl).mono ?_
        rintro e w2 ⟨rfl, hw2⟩
        have kk := K1.trans hw2
        refine hK.out _ _ (fun _ => HSO.out _ kk) ?_
        clear hK K
        try simp only [Act.put, upA, upB, upC]
        refine UpTo.nx 17 (fun K hK => ?_)
        go_simp
        refine hK.out _ _ (fun h => absurd rfl h) ?_
        clear hK K
        try simp only [Act.put, upA, upB, upC]
        refine UpTo.dn ?_
        try dsimp only
        have kf := hw.trans kk
        go_wp2
        go_roundw
        case rel =>
          refine ⟨n + 1, by omega, by omega, by go_num, kf, fun j hj => ?_⟩
          by_cases e : j = n - 1
          · subst e
            unfold lessX
            rw [HX.out, HYK.out, hbl]
          · exact HG.out j (by omega)
        case measure => simp [intOf]; omega
    · go_wp2
      go_ret
      exact ⟨Says.yes (asc_of_rise fun j hj => HG.out j (by omega)), k0.trans hw⟩
end Go.Proofs.YtjhemildijapmaaGreatDoor
