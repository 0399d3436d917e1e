import Derived.Test.YtjhemildijapmaaGreatDoorKXPut0
import Derived.Test.YtjhemildijapmaaGreatDoorKVAppr
import Derived.Test.YtjhemildijapmaaGreatDoorKVDo
namespace Go.Proofs.YtjhemildijapmaaGreatDoor
open Go.RowKit
structure KnX (wz wr : World) (kb : Nat) (a : Option Addr) (n cap : Nat) (R : List RunX) (d : Option Addr) (dc : Nat) (xs : List Value) : Prop where
  kw : Kept wz wr
  known : KnownX wr kb a n cap d R.length dc
  own : wr.ownsRow wz.heap.size 59 7 (.slice d R.length dc) R.length xs
  pack : PackedX wz (fun _ => True) xs R
theorem KnX.kept {wz wr w' : World} {kb n cap dc : Nat} {a d : Option Addr} {R : List RunX} {xs : List Value} (h : KnX wz wr kb a n cap R d dc xs) (k : Kept wr w') : KnX wz w' kb a n cap R d dc xs :=
  ⟨h.kw.trans k, h.known.kept k, ownsRow_kept' h.own k, h.pack⟩
theorem KnX.runs {wz wr : World} {kb n cap dc : Nat} {a d : Option Addr} {R : List RunX} {xs : List Value} (h : KnX wz wr kb a n cap R d dc xs) : RunsX wr d R := by
  obtain ⟨_, a9, c9, ev, h9⟩ := PackedX.runs h.own h.pack h.kw
  simp only [Value.slice.injEq, true_and] at ev
  rw [ev.1]
  exact h9.runs
theorem own_ne {w : World} {kb base n : Nat} {v : Value} {xs : List Value} (hr : RowT w kb 91 2) (h : w.ownsRow base 59 7 v n xs) : some kb ≠ v.ownBlock := by
  rcases h.2 with ⟨rfl, _⟩ | ⟨g, cap, cur, rfl, _, hg, _⟩
  · intro e; cases e
  · intro e
    simp only [Value.ownBlock, Option.some.injEq] at e
    subst e
    obtain ⟨c2, h2, _⟩ := hr
    rw [hg] at h2
    simp only [Option.some.injEq, Obj.cells.injEq] at h2
    exact absurd h2.2.1 (by decide)
theorem KnX.block {wz wr W w6 : World} {kb n cap dc : Nat} {a d : Option Addr} {R : List RunX} {xs : List Value} (h : KnX wz wr kb a n cap R d dc xs) (KW : Kept wr W) (hgr : W.grownBy w6 (Value.slice d R.length dc).ownBlock) : w6.heap[kb]? = W.heap[kb]? :=
  hgr.block kb (h.known.kept KW).row.lt (own_ne (h.known.kept KW).row (ownsRow_kept' h.own KW))
theorem KnX.grown {wz wr W w6 : World} {kb n cap dc : Nat} {a d : Option Addr} {R : List RunX} {xs : List Value} (h : KnX wz wr kb a n cap R d dc xs) (KW : Kept wr W) (hgr : W.grownBy w6 (Value.slice d R.length dc).ownBlock) : Kept wz w6 ∧ KnownX w6 kb a n cap d R.length dc := by
  have hb := h.block KW hgr
  have hk := h.known.kept KW
  exact ⟨kept_of_grown (h.kw.trans KW) (Nat.le_refl _) (ownsRow_kept' h.own KW) hgr, hk.row.block hb, (World.cell?_of_block (w := W) hb).trans hk.web, (World.cell?_of_block (w := W) hb).trans hk.runs⟩
theorem owns_set2 {w : World} {base size : Nat} {e : TypeId} {v : Value} {n : Nat} {xs : List Value} (h : w.ownsRow base e size v n xs) {kb o : Nat} (hp : some kb ≠ v.ownBlock) (u : Value) : (w.setCell ⟨kb, o, none⟩ u).ownsRow base e size v n xs := by
  refine ⟨h.1, ?_⟩
  rcases h.2 with h2 | ⟨g, cap, cur, rfl, hb, hg, rest⟩
  · exact .inl h2
  · refine .inr ⟨g, cap, cur, rfl, hb, ?_, rest⟩
    rw [Below.heap_setCell _ _ _ _ (fun e => hp (by simp [Value.ownBlock, e]))]
    exact hg
theorem KnX.next {wz wr W w6 : World} {kb n cap dc cv6 : Nat} {a d av6 : Option Addr} {R : List RunX} {xs : List Value} {y : RunX} {xa : Option Addr} {xc : Nat} (h : KnX wz wr kb a n cap R d dc xs) (hk : wz.heap.size ≤ kb) (KW : Kept wr W) (hgr : W.grownBy w6 (Value.slice d R.length dc).ownBlock)
    (hO6 : w6.ownsRow wz.heap.size 59 7 (.slice av6 (R.length + 1) cv6) (R.length + 1) (xs ++ y.cells xa xc)) (hs : Strs wz xa y.texts) (hx : xa = none → xc = 0) :
    KnX wz (w6.setCell ⟨kb, 1, none⟩ (.slice av6 (R.length + 1) cv6)) kb a n cap (R ++ [y]) av6 cv6 (xs ++ y.cells xa xc) := by
  obtain ⟨k6, hK6⟩ := h.grown KW hgr
  have hl : (R ++ [y]).length = R.length + 1 := by simp
  refine ⟨Below.setCell k6 (p := ⟨kb, 1, none⟩) hk _, ⟨hK6.row.set _, ?_, ?_⟩, ?_, h.pack.snoc hs hx (fun _ _ => trivial)⟩
  · rw [set_miss (by omega)]
    exact hK6.web
  · rw [hl]; exact set_hit hK6.row.row (by omega) _
  · rw [hl]; exact owns_set2 hO6 (own_ne hK6.row hO6) _
theorem wantL_snoc (W : Acts) : ∀ (bs : List ByteArray) (l : List RunX) (n : ByteArray), wantL W l (bs ++ [n]) = if (W n).isSome = true ∧ (envOf (wantL W l bs) n).isNone = true then wantL W l bs ++ [RunX.fresh n] else wantL W l bs
  | [], _l, _n => rfl
  | _b :: bs, _l, n => wantL_snoc W bs _ n
theorem wantL_succ (W : Acts) (l : List RunX) {bs : List ByteArray} {k : Nat} (h : k < bs.length) : wantL W l (bs.take (k + 1)) = if (W (bs.getD k ByteArray.empty)).isSome = true ∧ (envOf (wantL W l (bs.take k)) (bs.getD k ByteArray.empty)).isNone = true then wantL W l (bs.take k) ++ [RunX.fresh (bs.getD k ByteArray.empty)] else wantL W l (bs.take k) := by
  rw [List.take_succ_eq_append_getElem h, wantL_snoc]
  simp [List.getD, h]
theorem wantL_len (W : Acts) : ∀ (bs : List ByteArray) (l : List RunX), (wantL W l bs).length ≤ l.length + bs.length
  | [], l => by simp [wantL]
  | b :: bs, l => by
    have h := wantL_len W bs (if (W b).isSome = true ∧ (envOf l b).isNone = true then l ++ [RunX.fresh b] else l)
    show (wantL W (if (W b).isSome = true ∧ (envOf l b).isNone = true then l ++ [RunX.fresh b] else l) bs).length ≤ _
    split at h <;> rename_i hc
    · rw [if_pos hc]; simp at h ⊢; omega
    · rw [if_neg hc]; simp at h ⊢; omega
theorem l2At_inX (w : World) (a : Option Addr) (cap : Nat) (l : List NodeD) (key : ByteArray) (hl : l.length ≤ 1048576) (hS : Nodes w a l) (h : (actsOf l key).isSome = true) :
    Calls Tryz.prog 79 #[.agg #[.slice a l.length cap], .string key] w fun e w' => (∃ r : Nat, e = .returned (.int .i64 (r : Int))) ∧ Kept w w' := by
  refine (l2At_place w a cap l key hl hS).mono ?_
  rintro e w' ⟨⟨r, rfl, hr⟩, k⟩
  rcases hr with ⟨i, _, rfl, _⟩ | ⟨_, hn⟩
  · exact ⟨⟨i, rfl⟩, k⟩
  · rw [hn] at h; cases h
theorem l2At_noX (w : World) (a : Option Addr) (cap : Nat) (l : List NodeD) (key : ByteArray) (hl : l.length ≤ 1048576) (hS : Nodes w a l) (h : ¬ (actsOf l key).isSome = true) :
    Calls Tryz.prog 79 #[.agg #[.slice a l.length cap], .string key] w fun e w' => e = .returned (.int .i64 (-1)) ∧ Kept w w' := by
  refine (l2At_place w a cap l key hl hS).mono ?_
  rintro e w' ⟨⟨r, rfl, hr⟩, k⟩
  rcases hr with ⟨i, _, rfl, hn, _⟩ | ⟨rfl, hn⟩
  · rw [hn] at h; exact absurd rfl h
  · exact ⟨rfl, k⟩
theorem find_noX (w : World) (kb : Nat) (a : Option Addr) (n cap : Nat) (d : Option Addr) (dc : Nat) (l : List RunX) (key : ByteArray) (hl : l.length ≤ 1048576) (hK : KnownX w kb a n cap d l.length dc) (hS : RunsX w d l) (h : (envOf l key).isNone = true) :
    Calls Tryz.prog 83 #[.pointer (some ⟨kb, 0, none⟩), .string key] w fun e w' => (∃ r : Int, e = .returned (.int .i64 r) ∧ r < 0) ∧ w' = w := by
  refine (findX w kb a n cap d dc l key hl hK hS).mono ?_
  rintro e w' ⟨⟨r, rfl, hr⟩, k⟩
  rcases hr with ⟨i, _, rfl, hn, _⟩ | ⟨rfl, _⟩
  · rw [hn] at h; cases h
  · exact ⟨⟨-1, rfl, by omega⟩, k⟩
theorem find_inX (w : World) (kb : Nat) (a : Option Addr) (n cap : Nat) (d : Option Addr) (dc : Nat) (l : List RunX) (key : ByteArray) (hl : l.length ≤ 1048576) (hK : KnownX w kb a n cap d l.length dc) (hS : RunsX w d l) (h : ¬ (envOf l key).isNone = true) :
    Calls Tryz.prog 83 #[.pointer (some ⟨kb, 0, none⟩), .string key] w fun e w' => (∃ r : Nat, e = .returned (.int .i64 (r : Int))) ∧ w' = w := by
  refine (findX w kb a n cap d dc l key hl hK hS).mono ?_
  rintro e w' ⟨⟨r, rfl, hr⟩, k⟩
  rcases hr with ⟨i, _, rfl, _⟩ | ⟨_, hn⟩
  · exact ⟨⟨i, rfl⟩, k⟩
  · rw [hn] at h; exact absurd rfl h
end Go.Proofs.YtjhemildijapmaaGreatDoor
