import Derived.Test.YtlllckfifkgcnaaDoorDStep
import Derived.Test.YtlllckfifkgcnaaDoorWSpec
import Derived.Deep.CutRange
import Derived.Deep.LoopGhost
import Derived.Deep.RegionLaw
import Derived.Deep.AppendLies
import Derived.Laws.AppendOwnNone

/-
  TOWARD spec.l1DrawAction: the action that is being drawn.
-/
namespace Go.Proofs.YtlllckfifkgcnaaDoor
open Go.RowKit

/-- Steps in a row of its own, nil slices without room. -/
def TStepsN (w : World) (v : Value) (L : List StepD) : Prop := ∃ base xs, w.ownsRow base 50 8 v L.length xs ∧ PackedS w 9 62 xs L ∧ NilOk xs
theorem TStepsN.same {w w' : World} {u : TypeId} {v : Value} {L : List StepD} (h : TStepsN w v L) (k : SameKind u w w') (h0 : 50 ≠ u) (h1 : 9 ≠ u) (h2 : 62 ≠ u) : TStepsN w' v L := by
  obtain ⟨base, xs, g1, g2, g3⟩ := h
  exact ⟨base, xs, owns_kept g1 k h0, g2.same k h1 h2, g3⟩
theorem TStepsN.steps {w : World} {v : Value} {L : List StepD} (h : TStepsN w v L) : ∃ a cap, v = .slice a L.length cap ∧ Steps w a L := by
  obtain ⟨base, xs, g1, g2, _⟩ := h
  exact TSteps.steps ⟨base, xs, g1, g2⟩

/-- What l1DrawAction gives. -/
def DrewAction (w w' : World) (rb : Nat) (a : Option Addr) (cap : Nat) (bs : List UInt8) (p t : Nat) (e : Ending) : Prop :=
  ∃ (cost : Int) (v : Value) (L : List StepD) (p' : Nat), e = .returned (.agg #[.int .i64 cost, v]) ∧ p ≤ p' ∧ p' ≤ p + t ∧ 1 ≤ L.length ∧ L.length ≤ 20 ∧ (-1000 ≤ cost ∧ cost ≤ 1000) ∧ (∀ s ∈ L, s.Tiny) ∧
    TStepsN w' v L ∧ Rd w' rb a cap bs p' ∧ KeptBut rb (rb + 1) w w'

theorem ASt.made {w w1 : World} {rb : Nat} {a : Option Addr} {cap : Nat} {bs : List UInt8} {p p0 : Nat} (h0 : Rd w rb a cap bs p0) (h : Rd w1 rb a cap bs p) (k : KeptBut rb (rb + 1) w w1) (cost : Int) :
    ASt w (w1.alloc (.cells #[.int .i64 cost, .slice none 0 0] 25)) rb w1.heap.size a cap bs p cost (.slice none 0 0) [] [] := by
  have hr := range_new w1 #[.int .i64 cost, .slice none 0 0] 25
  have hk : Kept w1 (w1.alloc (.cells #[.int .i64 cost, .slice none 0 0] 25)) := (Kept.refl _).alloc _
  exact ⟨h.kept hk, ⟨p0, h0⟩, k.size, k.and_kept hk, RowT.made w1 _ _, hr 0 _ rfl, hr 1 _ rfl, World.ownsRow_nil _ _ _ _, PackedS.nil _ _ _, fun s hs => by simp at hs, fun n c hm => by simp at hm⟩

theorem SSt.made {W : World} {rb : Nat} {a : Option Addr} {cap : Nat} {bs : List UInt8} {p : Nat} (h : Rd W rb a cap bs p) {els fall : Int} (he : -1000 ≤ els ∧ els ≤ 1000) (hf : -1000 ≤ fall ∧ fall ≤ 1000) :
    SSt W (W.alloc (.cells #[.slice none 0 0, .int .i64 0, .slice none 0 0, .int .i64 els, .int .i64 fall, .bool false, .bool false, .string ⟨#[]⟩] 50)) rb W.heap.size a cap bs p (.slice none 0 0) (.slice none 0 0) ⟨[], 0, [], els, fall, false, false, ⟨#[]⟩⟩ := by
  have hk : Kept W (W.alloc (.cells #[.slice none 0 0, .int .i64 0, .slice none 0 0, .int .i64 els, .int .i64 fall, .bool false, .bool false, .string ⟨#[]⟩] 50)) := (Kept.refl _).alloc _
  exact ⟨h.kept hk, ⟨p, h⟩, Nat.le_refl _, .of_kept hk, SBox.made W els fall, World.ownsRow_nil _ _ _ _, World.ownsRow_nil _ _ _ _, ⟨by simp, fun x hx => by simp at hx, ⟨by show (-1000 : Int) ≤ 0; omega, by show (0 : Int) ≤ 1000; omega⟩, by simp, fun x hx => by simp at hx, in64_of he, hf, by show (⟨#[]⟩ : ByteArray).size ≤ 300; decide⟩⟩

theorem l1Names_len (w : World) (a : Option Addr) (cap m : Nat) (l : List ByteArray) (hm : l.length = m) (hl : l.length ≤ 1000) (hs : ∀ s ∈ l, s.size ≤ 1000) (hS : Strs w a l) :
    Calls Tryd.prog 33 #[.slice a m cap] w fun e w' => (∃ b : Bool, e = .returned (.bool b)) ∧ Kept w w' := by
  subst hm
  refine (l1Names_any w a cap l (by unfold maxLen; omega) (fun s h => by have := hs s h; unfold maxLen; omega) hS).mono ?_
  rintro e w' ⟨⟨r, rfl, _⟩, k⟩
  exact ⟨⟨r, rfl⟩, k⟩
theorem boxStr (w : World) (x : ByteArray) : ∀ j u, ([.string x] : List Value)[j]? = some u → (w.alloc (.cells #[.string x] 9)).cell? ((⟨w.heap.size, 0, none⟩ : Addr).add j) = some u := fun j u hu => by
  rw [Addr.add_mid]
  exact range_new w #[.string x] 9 j u hu
theorem oneStr (x : ByteArray) : ∀ u ∈ ([.string x] : List Value), u.oneCell' = true := fun u hu => by simp at hu; subst hu; rfl

/-- The end: the action is copied into the result's variable. -/
theorem AStN.ends {w w5 : World} {rb ab : Nat} {a : Option Addr} {cap : Nat} {bs : List UInt8} {p p' t : Nat} {cost : Int} {v : Value} {L' : List StepD} {xs : List Value} {A0 : World} {e : Ending} (h : AStN 20 A0 w5 rb ab a cap bs p' cost v L' xs) (hr : RowT w5 w.heap.size 25 2) (k0 : Kept w A0) {pw : Nat} (hw : Rd w rb a cap bs pw)
    (he : e = .returned (.agg #[.int .i64 cost, v])) (h1 : p ≤ p') (h2 : p' ≤ p + t) (h3 : 1 ≤ L'.length) (h4 : L'.length ≤ 20) (h5 : -1000 ≤ cost ∧ cost ≤ 1000) : DrewAction w ((w5.setCell ⟨w.heap.size, 0, none⟩ (.int .i64 cost)).setCell ⟨w.heap.size, 1, none⟩ v) rb a cap bs p t e := by
  have hk1 := hr.same (o := 0) (.int .i64 cost)
  have hk2 := (hr.set (o := 0) (.int .i64 cost)).same (o := 1) v
  have hk := hk1.trans hk2
  have hbl : Below w.heap.size w5 ((w5.setCell ⟨w.heap.size, 0, none⟩ (.int .i64 cost)).setCell ⟨w.heap.size, 1, none⟩ v) := ((Below.refl _ _).setCell (p := ⟨w.heap.size, 0, none⟩) (Nat.le_refl _) _).setCell (p := ⟨w.heap.size, 1, none⟩) (Nat.le_refl _) _
  have hkb : KeptBut rb (rb + 1) w w5 := ⟨h.kb.os.trans k0.os, h.kb.tape.trans k0.tape, h.kb.output.trans k0.output, Nat.le_trans k0.size h.kb.size, fun i hi ho => (h.kb.block i (Nat.lt_of_lt_of_le hi k0.size) ho).trans (k0.block i hi)⟩
  exact ⟨cost, v, L', p', he, h1, h2, h3, h4, h5, h.tiny, ⟨_, xs, owns_kept h.own hk (by decide), h.pack.same hk (by decide) (by decide), h.nils⟩, h.rd.below hw hbl hkb.size, hkb.below hbl⟩

/-- Behind the beginning: how many steps. -/
def Begun (A0 : World) (ab rb : Nat) (a : Option Addr) (cap : Nat) (bs : List UInt8) (p : Nat) (s8 : Value) (wx : World) : Prop :=
  ∃ (n1 : Nat) (cost : Int) (p' : Nat), s8 = .int .i64 (1 + (n1 : Int)) ∧ n1 ≤ 3 ∧ (1 ≤ cost ∧ cost ≤ 20) ∧ p ≤ p' ∧ p' ≤ p + 4 ∧ ASt A0 wx rb ab a cap bs p' cost (.slice none 0 0) [] []
def Priced (A0 : World) (ab rb : Nat) (a : Option Addr) (cap : Nat) (bs : List UInt8) (p : Nat) (s7 : Value) (wx : World) : Prop :=
  ∃ (cost : Int), s7 = .pointer (some ⟨ab, 0, none⟩) ∧ (1 ≤ cost ∧ cost ≤ 20) ∧ ASt A0 wx rb ab a cap bs (p + 2) cost (.slice none 0 0) [] []

end Go.Proofs.YtlllckfifkgcnaaDoor
