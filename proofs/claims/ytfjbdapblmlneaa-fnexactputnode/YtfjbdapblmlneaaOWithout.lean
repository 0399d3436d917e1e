import Derived.Test.YtfjbdapblmlneaaDataN
import Derived.Test.YtfjbdapblmlneaaDBase
import Derived.OwnWalk
import Derived.Test.YtfjbdapblmlneaaWNodes2
import Derived.Lib.AppendZeros
import Derived.Test.YtfjbdapblmlneaaOCopy3
import Derived.Test.YtfjbdapblmlneaaWCheck4
import Derived.Test.YtfjbdapblmlneaaWCheck2
import Derived.Deep.RegionHeld

/-
  NODES, PACKED IN A ROW OF CELLS: what append takes and gives. Nothing of the dump is named here.
-/
namespace Go.Proofs.Ytfjbdapblmlneaa
open Go.RowKit

/-- These cells are these nodes, one behind the other. -/
def Packed (w : World) (cs : List Value) (l : List NodeD) : Prop :=
  cs.length = l.length * 3 ∧ (∀ u ∈ cs, u.oneCell' = true) ∧ ∀ i, i < l.length → ∃ a cap, Steps w a (l.getD i NodeD.zero).steps ∧ ∀ t v, ((l.getD i NodeD.zero).cells a cap)[t]? = some v → cs[i * 3 + t]? = some v

theorem Packed.nil (w : World) : Packed w [] [] := ⟨rfl, (fun u hu => by cases hu), (fun i hi => by simp at hi)⟩
theorem Packed.kept {w w' : World} {cs : List Value} {l : List NodeD} (h : Packed w cs l) (k : Kept w w') : Packed w' cs l :=
  ⟨h.1, h.2.1, fun i hi => by obtain ⟨a, cap, h1, h2⟩ := h.2.2 i hi; exact ⟨a, cap, h1.kept k, h2⟩⟩
theorem Packed.append {w : World} {c1 c2 : List Value} {l1 l2 : List NodeD} (h1 : Packed w c1 l1) (h2 : Packed w c2 l2) : Packed w (c1 ++ c2) (l1 ++ l2) := by
  refine ⟨by rw [List.length_append, List.length_append, h1.1, h2.1, Nat.add_mul], fun u hu => ?_, fun i hi => ?_⟩
  · rcases List.mem_append.1 hu with h | h
    · exact h1.2.1 u h
    · exact h2.2.1 u h
  · by_cases hlt : i < l1.length
    · have e : (l1 ++ l2).getD i NodeD.zero = l1.getD i NodeD.zero := by simp [List.getD, List.getElem?_append_left hlt]
      rw [e]
      obtain ⟨a, cap, g1, g2⟩ := h1.2.2 i hlt
      refine ⟨a, cap, g1, fun t v hv => ?_⟩
      have := g2 t v hv
      rw [List.getElem?_append_left (List.getElem?_eq_some_iff.1 this).1]
      exact this
    · have hi2 : i - l1.length < l2.length := by rw [List.length_append] at hi; omega
      have e : (l1 ++ l2).getD i NodeD.zero = l2.getD (i - l1.length) NodeD.zero := by simp [List.getD, List.getElem?_append_right (by omega : l1.length ≤ i)]
      rw [e]
      obtain ⟨a, cap, g1, g2⟩ := h2.2.2 _ hi2
      refine ⟨a, cap, g1, fun t v hv => ?_⟩
      have := g2 t v hv
      rw [List.getElem?_append_right (by rw [h1.1]; omega), h1.1]
      have e2 : i * 3 + t - l1.length * 3 = (i - l1.length) * 3 + t := by omega
      rw [e2]
      exact this

/-- The cells of nodes that lie in memory. -/
theorem packed_of_nodes {w : World} {b o : Nat} : ∀ {l : List NodeD}, Nodes w (some ⟨b, o, none⟩) l → ∃ cs, Packed w cs l ∧ ∀ j u, cs[j]? = some u → w.cell? ((⟨b, o, none⟩ : Addr).add j) = some u := by
  intro l
  induction l generalizing o with
  | nil => intro _; exact ⟨[], Packed.nil w, fun j u h => by simp at h⟩
  | cons d r ih =>
    intro h
    obtain ⟨b0, o0, cs0, e0, hb, hr, a, cap, rfl, hS⟩ := h 0 (by simp)
    simp only [Option.some.injEq, Addr.mk.injEq, and_true] at e0
    obtain ⟨rfl, rfl⟩ := e0
    obtain ⟨cs, hP, hc⟩ := ih (o := o + 3) (fun i hi => by
      obtain ⟨b1, o1, cs1, e1, hb1, hr1, hN1⟩ := h (i + 1) (by simpa using hi)
      simp only [Option.some.injEq, Addr.mk.injEq, and_true] at e1
      obtain ⟨rfl, rfl⟩ := e1
      refine ⟨b, o + 3, cs1, rfl, hb1, ?_, hN1⟩
      have e2 : o + (i + 1) * 3 = o + 3 + i * 3 := by omega
      rw [← e2]
      exact hr1)
    have hd : (d :: r).getD 0 NodeD.zero = d := rfl
    rw [hd] at hr hS
    have h1 : Packed w (d.cells a cap) [d] := by
      refine ⟨rfl, fun u hu => ?_, fun i hi => ?_⟩
      · have := NodeD.one d a cap
        rw [Array.all_eq_true_iff_forall_mem] at this
        exact this u (by simpa using hu)
      · obtain rfl : i = 0 := by simpa using hi
        exact ⟨a, cap, hS, fun t v hv => by simpa using hv⟩
    refine ⟨d.cells a cap ++ cs, h1.append hP, fun j u hu => ?_⟩
    by_cases hj : j < 3
    · rw [List.getElem?_append_left (by simpa [NodeD.cells] using hj)] at hu
      have := hr j u hu
      rw [Addr.add_mid]
      simpa using this
    · rw [List.getElem?_append_right (by simpa [NodeD.cells] using hj)] at hu
      have e3 : (d.cells a cap).length = 3 := rfl
      rw [e3] at hu
      have := hc (j - 3) u hu
      have e4 : o + 3 + (j - 3) = o + j := by omega
      rw [Addr.add_mid, e4] at this
      rw [Addr.add_mid]
      exact this

/-- Nodes in a row that the call owns. -/
theorem nodes_of_owned {w : World} {base : Nat} {e : TypeId} {v : Value} {n : Nat} {xs : List Value} {l : List NodeD} (h : w.ownsRow base e 3 v n xs) (hP : Packed w xs l) : n = l.length ∧ ∃ a cap, v = .slice a l.length cap ∧ l.length ≤ cap ∧ Nodes w a l := by
  have hn : n = l.length := by have := h.1; have := hP.1; omega
  refine ⟨hn, ?_⟩
  subst hn
  rcases h.2 with ⟨rfl, h0⟩ | ⟨g, cap, cur, rfl, hb, hg, hnc, _, _, _⟩
  · refine ⟨none, 0, by rw [h0], by omega, fun i hi => by omega⟩
  · refine ⟨_, cap, rfl, hnc, fun i hi => ?_⟩
    obtain ⟨a, c, h1, h2⟩ := hP.2.2 i hi
    have hlt : g < w.heap.size := by
      have := (Array.getElem?_eq_some_iff.1 hg).1
      exact this
    refine ⟨g, 0, _, rfl, hlt, fun t u hu => ?_, a, c, rfl, h1⟩
    have := h.cells (g := g) rfl _ _ (h2 t u hu)
    rw [Addr.add_mid] at this
    rw [Nat.zero_add] at this ⊢
    exact this




end Go.Proofs.Ytfjbdapblmlneaa

/-
  WALKS: slices.Grow, slices.Concat over nodes.
-/
namespace Go.Proofs.Ytfjbdapblmlneaa
open Go.RowKit

theorem Try.undInt : Try.prog.underlying 3 = some (.int .i64) := by kernel_rfl

set_option maxRecDepth 100000 in
set_option maxHeartbeats 800000 in
theorem grow_any (w : World) (n : Nat) (hn : n ≤ 3145728) :
    Calls Try.prog 92 #[.slice none 0 0, .int .i64 n] w fun e w' => ∃ v, e = .returned v ∧ w'.ownsRow w.heap.size 60 3 v 0 [] ∧ Kept w w' := by
  by_cases h0 : n = 0
  · subst h0
    go_enter Try.func92, Try.ntmps92
    go_wp2
    go_ret
    exact ⟨_, rfl, World.ownsRow_nil _ _ _ _, Kept.refl _⟩
  · obtain ⟨i0, hi, hz0, hz1, hz2⟩ := info_parts Try.infoNode
    have hrun := fun ty => Lib.run_append_nil_zeros (P := Try.prog) w 48 3 ty 60 i0 _ .i64 .i64 Try.underlying48 Try.undInt hi hz0 n (by omega) (by rw [hz1]; omega) (by omega) (by rw [hz2]; omega)
    have hge := grownCap_ge w n 0 60
    have hle := grownCap_le_maxLen w n 0 60 (by unfold maxLen; omega)
    have HRun := hide hrun
    clear hrun
    have hp : (0 : Int) < (n : Int) := by omega
    go_enter Try.func92, Try.ntmps92
    go_wp2_with (at_builtin; refine Lib.wpList_append_run _ rfl (.tmp 20) (.tmp 21) _ _ rfl _ _ rfl rfl _ _ (HRun.out _) ?_)
    go_ret
    refine ⟨_, rfl, World.ownsRow.drew (World.ownsRow_made w _ _ (Nat.le_refl _) hle ?_), ((Kept.refl _).alloc _).drew⟩
    simp only [Array.size_append, size_zeroCells]
    have e3 : (#[Value.string ⟨#[]⟩, Value.int .i64 0, Value.slice none 0 0] : Array Value).size = 3 := rfl
    rw [e3, ← Nat.add_mul]
    congr 1
    omega

/-- Slices of nodes, one behind the other in a row; what they hold is a list of nodes in w0. -/
def Rows2 (w w0 : World) (b : Nat) (LL : List (List NodeD)) (P : Nat → Nat × Nat) (C : Nat → Nat) : Prop :=
  b < w.heap.size ∧ ∀ i, i < LL.length → w.cell? ⟨b, i, none⟩ = some (.slice (some ⟨(P i).1, (P i).2, none⟩) (LL.getD i []).length (C i)) ∧ ∃ news, Packed w0 news (LL.getD i []) ∧ ∀ j u, news[j]? = some u → w.cell? ⟨(P i).1, (P i).2 + j, none⟩ = some u
theorem Rows2.kept {w w' w0 : World} {b : Nat} {LL : List (List NodeD)} {P : Nat → Nat × Nat} {C : Nat → Nat} (h : Rows2 w w0 b LL P C) (k : Kept w w') : Rows2 w' w0 b LL P C :=
  ⟨Nat.lt_of_lt_of_le h.1 k.size, fun i hi => ⟨by rw [k.cell h.1]; exact (h.2 i hi).1, let ⟨news, h1, h2⟩ := (h.2 i hi).2; ⟨news, h1, fun j u hu => by rw [k.cell (World.block_lt_of_cell? _ _ (h2 j u hu))]; exact h2 j u hu⟩⟩⟩

theorem flat_take_succ (LL : List (List NodeD)) (k : Nat) (h : k < LL.length) : (LL.take (k + 1)).flatten = (LL.take k).flatten ++ LL.getD k [] := by
  rw [List.take_succ_eq_append_getElem h, List.flatten_append]
  simp [List.getD, h]
theorem flat_len (LL : List (List NodeD)) (k : Nat) : (LL.take k).flatten.length = sumTo List.length LL k := by
  unfold sumTo
  rw [List.length_flatten]

set_option maxRecDepth 100000 in
set_option maxHeartbeats 1600000 in
theorem concat_any (w w0 : World) (b cap : Nat) (LL : List (List NodeD)) (P : Nat → Nat × Nat) (C : Nat → Nat) (hm : LL.length ≤ 3) (hn : (LL.map List.length).sum ≤ 3145728) (hR : Rows2 w w0 b LL P C) :
    Calls Try.prog 72 #[.slice (some ⟨b, 0, none⟩) LL.length cap] w fun e w' => ∃ v xs, e = .returned v ∧ w'.ownsRow w.heap.size 60 3 v LL.flatten.length xs ∧ Packed w0 xs LL.flatten ∧ Kept w w' := by
  go_enter Try.func72, Try.ntmps72
  go_wp2
  go_loop [3, 11] (fun x i => ∃ k : Nat, k ≤ LL.length ∧ i = .int .i64 k ∧ x = .int .i64 (sumTo List.length LL k : Nat)) (fun _ i => LL.length - (intOf i).toNat)
  case atStart => exact ⟨0, Nat.zero_le _, rfl, by rw [sumTo_zero]; rfl⟩
  case round =>
    obtain ⟨k, hk, rfl, rfl⟩ := hrel
    by_cases hlt : k < LL.length
    · have hc := (hR.2 k hlt).1
      have HS : Hid (sumTo List.length LL (k + 1) = sumTo List.length LL k + (LL.getD k []).length) := sumTo_succ _ LL _ k hlt
      have HT := sumTo_le List.length LL (k + 1)
      have hst : sumTo List.length LL k + (LL.getD k []).length ≤ 3145728 := by have := HS.out; omega
      generalize sumTo List.length LL k = z at *
      generalize (LL.getD k []).length = y at *
      obtain ⟨p1, p2⟩ := P k
      clear HT
      go_wp2
      go_round
      case rel => exact ⟨k + 1, by omega, by go_num, by rw [HS.out]; go_num⟩
      case measure => simp [intOf]; omega
    · have hkl : k = LL.length := by omega
      subst hkl
      have hz : sumTo List.length LL LL.length ≤ 3145728 := by rw [sumTo_all]; exact hn
      generalize sumTo List.length LL LL.length = z at *
      go_wp2_with fail
      refine (grow_any _ z hz).mono ?_
      rintro e w1 ⟨v1, rfl, hown, k1⟩
      go_wp2
      go_loopw [6, 27] (fun x i wr => ∃ (k n : Nat) (xs : List Value), k ≤ LL.length ∧ i = .int .i64 k ∧ wr.ownsRow w.heap.size 60 3 x n xs ∧ Packed w0 xs (LL.take k).flatten ∧ Kept w wr) (fun _ i _ => LL.length - (intOf i).toNat)
      case atStart => exact ⟨0, 0, [], Nat.zero_le _, rfl, hown, by simpa using Packed.nil _, k1⟩
      case round =>
        obtain ⟨k, n, xs, hk, rfl, hown, hP, hw⟩ := hrel
        by_cases hlt : k < LL.length
        · have hc := ((hR.kept hw).2 k hlt).1
          have hbr := (hR.kept hw).1
          obtain ⟨news, hnP, hnc⟩ := ((hR.kept hw).2 k hlt).2
          obtain ⟨p1, hp1⟩ : ∃ p1, p1 = (P k).1 := ⟨_, rfl⟩
          obtain ⟨p2, hp2⟩ : ∃ p2, p2 = (P k).2 := ⟨_, rfl⟩
          rw [← hp1, ← hp2] at hc hnc
          clear hp1 hp2
          have hnw : ∀ j u, news[j]? = some u → wr.cell? ((⟨p1, p2, none⟩ : Addr).add j) = some u := fun j u hu => by
            rw [Addr.add_mid]
            exact hnc j u hu
          have hflat := flat_take_succ LL k hlt
          have hln := flat_len LL (k + 1)
          have hle := sumTo_le List.length LL (k + 1)
          have hnl : n = (LL.take k).flatten.length := by have q1 := hown.1; have q2 := hP.1; omega
          rw [hflat, List.length_append] at hln
          have hPn : Packed w0 (xs ++ news) (LL.take (k + 1)).flatten := by rw [hflat]; exact hP.append hnP
          have hnl2 : news.length = (LL.getD k []).length * 3 := hnP.1
          have hone := hnP.2.1
          obtain ⟨y, hy⟩ : ∃ y, y = (LL.getD k []).length := ⟨_, rfl⟩
          rw [← hy] at hc hnl2 hln
          have hb1 : n + y ≤ 3145728 := by omega
          obtain ⟨i0, hi, hz0, hz1, hz2⟩ := info_parts Try.infoNode
          have HPn := hide hPn
          have HN2 := hide hnw
          have HON := hide hone
          have HOw := hide hown
          have hbase := hw.size
          clear hPn hnw hone hy hnl hln hle hflat hnc hnP hP
          go_wp2_with (at_builtin; refine wpList_append_own _ rfl (.tmp 31) (.tmp 32) 48 rfl w.heap.size 60 i0 _ 3 48 Try.underlying48 hi hz0 hz1 hz2 rfl (by decide) _ n xs rfl HOw.out ⟨p1, p2, none⟩ y (C k) news rfl hnl2 HN2.out HON.out (by unfold maxLen; omega) (by omega) hbase ?_; intro v' w2 hown2 hgr _)
          go_roundw
          case rel => exact ⟨k + 1, n + y, xs ++ news, by omega, by go_num, hown2, HPn.out, kept_of_grown hw (Nat.le_refl _) HOw.out hgr⟩
          case measure => simp [intOf]; omega
        · have hkl : k = LL.length := by omega
          subst hkl
          rw [List.take_length] at hP
          have hn : n = LL.flatten.length := by have q1 := hown.1; have q2 := hP.1; omega
          subst hn
          have HOw := hide hown
          have HP := hide hP
          clear hown hP
          go_wp2
          go_ret
          exact ⟨_, xs, rfl, HOw.out, HP.out, hw⟩

end Go.Proofs.Ytfjbdapblmlneaa

/-
  WALKS over the program's copies: copyEach of nodes, webOf.
-/
namespace Go.Proofs.Ytfjbdapblmlneaa
open Go.RowKit

/-- That all in a node is small. -/
structure NodeD.Small (d : NodeD) : Prop where
  name : d.name.size ≤ 1048576
  steps : d.steps.length ≤ 1048576
  each : ∀ s ∈ d.steps, s.Small

set_option maxHeartbeats 1600000 in
theorem copyNodes_in (w : World) (a : Option Addr) (cap : Nat) (l : List NodeD) (hl : l.length ≤ 1048576) (hs : ∀ s ∈ l, s.Small) (hS : Nodes w a l) :
    Calls Try.prog 73 #[.slice a l.length cap, .func (.func 74) #[] #[]] w fun e w' => ∃ a', e = .returned (.slice a' l.length l.length) ∧ NodesIn w' w.heap.size w'.heap.size a' l ∧ Kept w w' := by
  by_cases h0 : l.length = 0
  · have hnil : l = [] := List.eq_nil_of_length_eq_zero h0
    subst hnil
    go_enter Try.func73, Try.ntmps73
    go_wp2
    go_ret
    exact ⟨none, rfl, .inl rfl, Kept.refl _⟩
  · have hmk := run_make_many (P := Try.prog) 48 60 _ _ _ Try.underlying48 Try.infoNode .i64 .i64 l.length (by omega) (by omega)
    have h00 : ((l.length : Int) == 0) = false := by simpa using h0
    go_enter Try.func73, Try.ntmps73
    go_wp2
    clear hmk h00
    have hrow := Row.made w (madeCells #[.string ⟨#[]⟩, .int .i64 0, .slice none 0 0] (l.length * 3)) 60
    rw [size_madeCells] at hrow
    have hkept : Kept w (w.alloc (.cells (madeCells #[.string ⟨#[]⟩, .int .i64 0, .slice none 0 0] (l.length * 3)) 60)) := (Kept.refl _).alloc _
    go_loopw [16] (fun i wr => ∃ k : Nat, k ≤ l.length ∧ i = .int .i64 k ∧ Kept w wr ∧ Row wr w.heap.size (l.length * 3) ∧ ∃ c : Nat → Nat, w.heap.size < c 0 ∧ c k ≤ wr.heap.size ∧ (∀ i j, i ≤ j → c i ≤ c j) ∧ ∀ j, j < k → NodeIn wr w.heap.size j (c j) (c (j + 1)) (l.getD j NodeD.zero)) (fun i _ => l.length - (intOf i).toNat)
    case atStart => exact ⟨0, Nat.zero_le _, rfl, hkept, hrow, fun _ => w.heap.size + 1, Nat.lt_succ_self _, by simp, fun _ _ _ => Nat.le_refl _, fun j hj => absurd hj (Nat.not_lt_zero _)⟩
    case round =>
      obtain ⟨k, hk, rfl, hw, hr, c, hc0, hck, hmono, hf⟩ := hrel
      have HMono := hide hmono
      clear hmono
      clear hrow hkept
      by_cases hlt : k < l.length
      · obtain ⟨b, o, cs, rfl, hb, hc, aa, ca, rfl, hA⟩ := hS.kept hw k hlt
        have hsz := hs (l.getD k NodeD.zero) (by simp [List.getD, hlt])
        have HF := hide hf
        clear hf hs
        generalize hs : l.getD k NodeD.zero = s at *
        have HSs := hide hs
        clear hs
        have c0 := hc 0 _ rfl
        have c1 := hc 1 _ rfl
        have c2 := hc 2 _ rfl
        simp only [Nat.add_zero] at c0
        clear hc
        go_wp2_with fail
        refine (copyNode_in _ s aa ca hsz.name hsz.steps hsz.each (hA.kept (by repeat (first | (refine Kept.setCell ?_ (by simp) _) | apply Kept.alloc | exact Kept.refl _)))).mono ?_
        rintro e w1 ⟨b1, rfl, g1, k1⟩
        simp only [World.size_alloc] at g1
        have hw1 : Kept wr w1 := Kept.trans (by repeat (first | (refine Kept.setCell ?_ (by simp) _) | apply Kept.alloc | exact Kept.refl _)) k1
        have hz1 := hw1.size
        have hrl := hr.lt
        have hw2 := hw.trans hw1
        have hr1 := hr.kept hw1
        generalize hcs : s.cells b1 s.steps.length = cs
        have hlen : cs.length = 3 := by rw [← hcs]; rfl
        have hone : cs.toArray.all (·.oneCell') = true := by rw [← hcs]; exact NodeD.one s _ _
        have hth : w1.there w.heap.size (k * 3) cs.toArray.size := by simpa [hlen] using hr1.there (o := k * 3) (m := 3) (by omega)
        have hsize : (Try.prog.info? 60).map (·.size) = some cs.toArray.size := by rw [Try.sizeNode]; simp [hlen]
        have HCS := hide hcs
        have HLEN := hide hlen
        have HSZ := hide hsize
        clear hcs hlen hsize
        have HR : Hid (Row w1 w.heap.size (l.length * 3)) := hr1
        have HF1 : Hid (∀ j, j < k → NodeIn w1 w.heap.size j (c j) (c (j + 1)) (l.getD j NodeD.zero)) := fun j hj => (HF.out j hj).kept hw1 hr.lt
        clear HF c0 c1 c2 hw hw1 k1 hr hr1 hA
        go_wp2_with (refine wpList_store_mid rfl 60 _ _ rfl w.heap.size (k * 3) cs.toArray rfl rfl hth (unhide HSZ) hone ?_)
        go_roundw
        case rel =>
          have hmono := HMono.out
          refine ⟨k + 1, by omega, by go_num, Kept.setCells (Nat.le_refl _) _ _ hw2, Row.setCells _ _ HR.out, cutAt c k w1.heap.size, by rw [cutAt_le (Nat.zero_le _)]; exact hc0, by rw [cutAt_gt (by omega), size_setCells]; exact Nat.le_refl _, cutAt_mono hmono (by omega), fun j hj => ?_⟩
          by_cases e : j = k
          · subst e
            rw [unhide HSs, cutAt_le (Nat.le_refl _), cutAt_gt (by omega)]
            have hcj : w.heap.size < c j := Nat.lt_of_lt_of_le hc0 (hmono 0 j (Nat.zero_le _))
            exact ⟨_, _, by rw [HCS.out]; exact World.rangeAt_setCells_same _ _ _ _ (by simpa using hth), (g1.mono (by omega) (Nat.le_refl _)).same (Same.setCells (.inl hcj) _ _ _)⟩
          · rw [cutAt_le (by omega), cutAt_le (by omega)]
            exact (HF1.out j (by omega)).setCells (Nat.lt_of_lt_of_le hc0 (hmono 0 j (Nat.zero_le _))) (by rw [HLEN.out]; omega)
        case measure => simp [intOf]; omega
      · go_wp2
        go_ret
        have : k = l.length := by omega
        subst this
        exact ⟨_, rfl, .inr ⟨w.heap.size, c, rfl, Nat.le_refl _, hc0, hck, hr, HMono.out, hf⟩, hw⟩

set_option maxRecDepth 100000 in
set_option maxHeartbeats 800000 in
theorem webOf_in (w : World) (a : Option Addr) (cap : Nat) (l : List NodeD) (hl : l.length ≤ 1048576) (hs : ∀ s ∈ l, s.Small) (hS : Nodes w a l) :
    Calls Try.prog 57 #[.agg #[.slice a l.length cap, .func (.func 70) #[] #[]]] w fun e w' => ∃ a', e = .returned (.agg #[.slice a' l.length l.length]) ∧ NodesIn w' w.heap.size w'.heap.size a' l ∧ Kept w w' := by
  go_enter Try.func57, Try.ntmps57
  go_wp2_with fail
  refine (copyNodes_in _ a cap l hl hs (hS.kept (by repeat (first | apply Kept.alloc | exact Kept.refl _)))).mono ?_
  rintro e w1 ⟨a2, rfl, hS2, k1⟩
  have hz1 := k1.size
  simp only [World.size_alloc] at hz1 hS2
  have K1 : Kept w w1 := Kept.trans (by repeat (first | apply Kept.alloc | exact Kept.refl _)) k1
  have hrow1 : Row w1 (w.heap.size + 1) 1 := Row.kept (by have := Row.made (w.alloc (.cells #[.slice a l.length cap, .func (.func 70) #[] #[]] 98)) #[.slice none 0 0] 50; simpa using this) k1
  obtain ⟨⟨_, x0⟩, g0⟩ := hrow1.at (i := 0) (by omega)
  have HR1 := hide hrow1
  have HS2 := hide hS2
  clear k1 hrow1 hS2
  go_wp2
  have hR := World.rangeAt_setCells_same _ (w.heap.size + 1) 0 [.slice a2 l.length l.length] (HR1.out.there (o := 0) (m := 1) (Nat.le_refl _))
  refine bodyPost_ret_cell [.slice a2 l.length l.length] _ Try.results57 rfl hR Try.underlying50 rfl Try.sizeWeb rfl ⟨a2, rfl, NodesIn.mono (lo := w.heap.size + 1 + 1) (hi := w1.heap.size) ?_ (by omega) (by simp), ?_⟩
  · repeat (first | (refine NodesIn.setCell ?_ (by simp <;> omega) _) | exact HS2.out)
  · repeat (first | (refine Kept.setCell ?_ (by simp <;> omega) _) | exact K1)

end Go.Proofs.Ytfjbdapblmlneaa

/-
  THE ORDER OF NAMES: byte by byte. Nothing of the dump is named here.
-/
namespace Go.Proofs.Ytfjbdapblmlneaa
open Go.RowKit

theorem less_trans : ∀ (x y z : List UInt8), Op.bytesLess x y = true → Op.bytesLess y z = true → Op.bytesLess x z = true
  | [], [], _, h, _ => by simp [Op.bytesLess] at h
  | [], _ :: _, [], _, h => by simp [Op.bytesLess] at h
  | [], _ :: _, _ :: _, _, _ => by simp [Op.bytesLess]
  | _ :: _, [], _, h, _ => by simp [Op.bytesLess] at h
  | _ :: _, _ :: _, [], _, h => by simp [Op.bytesLess] at h
  | a :: x, b :: y, c :: z, h1, h2 => by
    have ih := less_trans x y z
    simp only [Op.bytesLess, Bool.or_eq_true, Bool.and_eq_true, decide_eq_true_eq, beq_iff_eq] at h1 h2 ⊢
    rcases h1 with h1 | ⟨rfl, h1⟩
    · rcases h2 with h2 | ⟨rfl, h2⟩
      · exact .inl (UInt8.lt_trans h1 h2)
      · exact .inl h1
    · rcases h2 with h2 | ⟨rfl, h2⟩
      · exact .inl h2
      · exact .inr ⟨rfl, ih h1 h2⟩

theorem less_irrefl : ∀ x : List UInt8, Op.bytesLess x x = false
  | [] => rfl
  | a :: x => by
    have ih := less_irrefl x
    simp [Op.bytesLess, ih]

theorem less_total : ∀ x y : List UInt8, Op.bytesLess x y = false → x ≠ y → Op.bytesLess y x = true
  | [], [], _, h => absurd rfl h
  | [], _ :: _, h, _ => by simp [Op.bytesLess] at h
  | _ :: _, [], _, _ => rfl
  | a :: x, b :: y, h, hne => by
    have ih := less_total x y
    simp only [Op.bytesLess, Bool.or_eq_false_iff, decide_eq_false_iff_not, Bool.and_eq_false_iff, beq_eq_false_iff_ne] at h
    simp only [Op.bytesLess, Bool.or_eq_true, Bool.and_eq_true, decide_eq_true_eq, beq_iff_eq]
    by_cases e : a = b
    · subst e
      right
      refine ⟨rfl, ih ?_ (fun e => hne (by rw [e]))⟩
      rcases h.2 with h2 | h2
      · exact absurd rfl h2
      · exact h2
    · left
      have h1 := h.1
      rw [UInt8.not_lt] at h1
      exact UInt8.lt_of_le_of_ne h1 (fun e' => e e'.symm)

/-- The name of node i. -/
def nameAt (l : List NodeD) (i : Nat) : List UInt8 := (l.getD i NodeD.zero).name.toList

/-- The names rise. -/
def Rises (l : List NodeD) : Prop := ∀ i j, i < j → j < l.length → Op.bytesLess (nameAt l i) (nameAt l j) = true

theorem rises_of {l : List NodeD} (h : ∀ i, i + 1 < l.length → Op.bytesLess (nameAt l i) (nameAt l (i + 1)) = true) : Rises l := by
  intro i j hij hj
  induction j with
  | zero => omega
  | succ j ih =>
    by_cases e : i = j
    · subst e; exact h i hj
    · exact less_trans _ _ _ (ih (by omega) (by omega)) (h j hj)

/-- Where a key stands or would stand. -/
structure Place (l : List NodeD) (key : List UInt8) (p : Nat) : Prop where
  le : p ≤ l.length
  before : ∀ j, j < p → Op.bytesLess (nameAt l j) key = true
  behind : ∀ j, p ≤ j → j < l.length → Op.bytesLess (nameAt l j) key = false

/-- It is there only at its place. -/
theorem Place.only {l : List NodeD} {key : List UInt8} {p j : Nat} (hr : Rises l) (h : Place l key p) (hj : j < l.length) (e : nameAt l j = key) : j = p := by
  by_cases h1 : j < p
  · have := h.before j h1
    rw [e, less_irrefl] at this
    cases this
  · by_cases h2 : p < j
    · have h3 := hr p j h2 hj
      rw [e] at h3
      have := h.behind p (Nat.le_refl _) (by omega)
      rw [h3] at this
      cases this
    · omega

end Go.Proofs.Ytfjbdapblmlneaa

/-
  WALKS toward find: cmp.Compare, the function literal, slices.BinarySearchFunc.
-/
namespace Go.Proofs.Ytfjbdapblmlneaa
open Go.RowKit

/-- What cmp.Compare answers. -/
def cmpD (x y : List UInt8) : Int := if Op.bytesLess x y = true then -1 else if x = y then 0 else 1

set_option maxHeartbeats 800000 in
theorem compare_any (w : World) (x y : ByteArray) : Calls Try.prog 91 #[.string x, .string y] w fun e w' => e = .returned (.int .i64 (cmpD x.toList y.toList)) ∧ w' = w := by
  cases h1 : Op.bytesLess x.toList y.toList
  · cases h2 : (x.toList == y.toList)
    · go_enter Try.func91, Try.ntmps91
      go_wp2
      go_ret
      exact ⟨ret_int (by unfold cmpD; rw [if_neg (by rw [h1]; simp), if_neg (by simpa using h2)]), rfl⟩
    · go_enter Try.func91, Try.ntmps91
      go_wp2
      go_ret
      exact ⟨ret_int (by unfold cmpD; rw [if_neg (by rw [h1]; simp), if_pos (by simpa using h2)]), rfl⟩
  · go_enter Try.func91, Try.ntmps91
    go_wp2
    go_ret
    exact ⟨ret_int (by unfold cmpD; rw [if_pos h1]), rfl⟩

/-- The function literal that find hands on: its own list lies in block g. -/
theorem findLit_any (w : World) (g : Nat) (d : NodeD) (a : Option Addr) (cap : Nat) (key : ByteArray) (hg : g < w.heap.size) (hc : w.cell? ⟨g, 1, none⟩ = some (.func (.func 70) #[] #[])) :
    Calls Try.prog 90 #[.agg #[.string d.name, .int .i64 d.cost, .slice a d.steps.length cap], .string key, .pointer (some ⟨g, 0, none⟩)] w fun e w' => e = .returned (.int .i64 (cmpD d.name.toList key.toList)) ∧ Kept w w' := by
  go_enter Try.func90, Try.ntmps90
  go_wp2_with fail
  refine (nodeName_any _ _ _ _ d.name rfl).mono ?_
  rintro e w1 ⟨rfl, k1⟩
  have K1 : Kept w w1 := Kept.trans (by repeat (first | apply Kept.alloc | exact Kept.refl _)) k1
  clear k1
  go_wp2_with fail
  refine (compare_any _ d.name key).mono ?_
  rintro e w2 ⟨rfl, rfl⟩
  go_wp2
  go_ret
  exact ⟨rfl, K1⟩

end Go.Proofs.Ytfjbdapblmlneaa

/-
  WALKS: slices.BinarySearchFunc, find.
-/
namespace Go.Proofs.Ytfjbdapblmlneaa
open Go.RowKit

theorem cmpD_neg {x y : List UInt8} : cmpD x y < 0 ↔ Op.bytesLess x y = true := by
  unfold cmpD
  by_cases h : Op.bytesLess x y = true
  · rw [if_pos h]; exact ⟨fun _ => h, fun _ => by omega⟩
  · rw [if_neg h]
    refine ⟨fun g => ?_, fun g => absurd g h⟩
    split at g <;> omega
theorem cmpD_zero {x y : List UInt8} : cmpD x y = 0 ↔ x = y := by
  unfold cmpD
  by_cases h : Op.bytesLess x y = true
  · rw [if_pos h]
    refine ⟨fun g => by omega, fun g => ?_⟩
    rw [g, less_irrefl] at h
    cases h
  · rw [if_neg h]
    by_cases e : x = y
    · rw [if_pos e]; exact ⟨fun _ => e, fun _ => rfl⟩
    · rw [if_neg e]; exact ⟨fun g => by omega, fun g => absurd g e⟩

/-- The place of a key, and whether it is there. -/
def Found (l : List NodeD) (key : List UInt8) (e : Ending) : Prop := ∃ (p : Nat) (f : Bool), e = .returned (.tuple #[.int .i64 p, .bool f]) ∧ Place l key p ∧ (f = true ↔ p < l.length ∧ nameAt l p = key)
theorem Found.mk {l : List NodeD} {key : List UInt8} {e : Ending} (p : Nat) (f : Bool) (h1 : e = .returned (.tuple #[.int .i64 p, .bool f])) (h2 : Place l key p) (h3 : f = true ↔ p < l.length ∧ nameAt l p = key) : Found l key e := ⟨p, f, h1, h2, h3⟩

set_option maxRecDepth 100000 in
set_option maxHeartbeats 1600000 in
theorem search_any (w : World) (g : Nat) (a : Option Addr) (cap : Nat) (l : List NodeD) (key : ByteArray) (hl : l.length ≤ 1048576) (hr : Rises l) (hg : g < w.heap.size) (hc : w.cell? ⟨g, 1, none⟩ = some (.func (.func 70) #[] #[])) (hS : Nodes w a l) :
    Calls Try.prog 89 #[.slice a l.length cap, .string key, .func (.func 90) #[] #[.pointer (some ⟨g, 0, none⟩)]] w
      fun e w' => Found l key.toList e ∧ Kept w w' := by
  have HRi := hide hr
  clear hr
  go_enter Try.func89, Try.ntmps89
  go_wp2
  go_loopw [9, 10] (fun x y wr => ∃ i j : Nat, x = .int .i64 i ∧ y = .int .i64 j ∧ i ≤ j ∧ j ≤ l.length ∧ (∀ t, t < i → Op.bytesLess (nameAt l t) key.toList = true) ∧ (∀ t, j ≤ t → t < l.length → Op.bytesLess (nameAt l t) key.toList = false) ∧ Kept w wr) (fun x y _ => (intOf y).toNat - (intOf x).toNat)
  case atStart => exact ⟨0, l.length, rfl, rfl, Nat.zero_le _, Nat.le_refl _, fun t ht => absurd ht (Nat.not_lt_zero _), fun t h1 h2 => by omega, Kept.refl _⟩
  case round =>
    obtain ⟨i, j, rfl, rfl, hij, hjn, hbe, hbh, hw⟩ := hrel
    have HB := hide (And.intro hbe hbh)
    clear hbe hbh
    by_cases hlt : (i : Int) < j
    · obtain ⟨h, hh⟩ : ∃ h : Nat, h = (i + j) / 2 := ⟨_, rfl⟩
      have hhlt : h < l.length := by omega
      have hhi : i ≤ h := by omega
      have hhj : h < j := by omega
      obtain ⟨b, o, cs, rfl, hb, hcs, aa, ca, rfl, hA⟩ := hS.kept hw h hhlt
      obtain ⟨d, hd⟩ : ∃ d, d = l.getD h NodeD.zero := ⟨_, rfl⟩
      rw [← hd] at hcs
      have HD := hide hd
      clear hd hA
      have c0 := hcs 0 _ rfl
      have c1 := hcs 1 _ rfl
      have c2 := hcs 2 _ rfl
      simp only [Nat.add_zero] at c0
      clear hcs
      have hmid : ((i : Int) + (j : Int)) / 2 = (h : Int) := by omega
      have HH := hide hh
      clear hh
      have hg' : g < wr.heap.size := Nat.lt_of_lt_of_le hg hw.size
      have hc' : wr.cell? ⟨g, 1, none⟩ = some (.func (.func 70) #[] #[]) := by rw [hw.cell hg]; exact hc
      go_wp2_with fail
      refine (findLit_any _ g d aa ca key hg' hc').mono ?_
      rintro e w1 ⟨rfl, k1⟩
      have hnm : nameAt l h = d.name.toList := by unfold nameAt; rw [← HD.out]
      have HC : Hid (cmpD d.name.toList key.toList < 0 ↔ Op.bytesLess (nameAt l h) key.toList = true) := by rw [hnm]; exact cmpD_neg
      clear c0 c1 c2 hnm
      generalize cmpD d.name.toList key.toList = r at *
      have hw1 := hw.trans k1
      clear hw k1
      by_cases hneg : r < 0
      · go_wp2
        go_roundw
        case rel =>
          obtain ⟨hbe, hbh⟩ := HB.out
          refine ⟨h + 1, j, by go_num, rfl, by omega, hjn, fun t ht => ?_, hbh, hw1⟩
          have hle := HC.out.1 hneg
          by_cases e : t = h
          · subst e; exact hle
          · exact less_trans _ _ _ (HRi.out t h (by omega) hhlt) hle
        case measure => simp [intOf]; omega
      · go_wp2
        go_roundw
        case rel =>
          obtain ⟨hbe, hbh⟩ := HB.out
          refine ⟨i, h, rfl, by go_num, hhi, by omega, hbe, fun t h1 h2 => ?_, hw1⟩
          have hle : Op.bytesLess (nameAt l h) key.toList = false := by
            cases hq : Op.bytesLess (nameAt l h) key.toList
            · rfl
            · have := HC.out.2 hq
              omega
          by_cases e : t = h
          · subst e; exact hle
          · cases hq : Op.bytesLess (nameAt l t) key.toList
            · rfl
            · rw [less_trans _ _ _ (HRi.out h t (by omega) h2) hq] at hle
              cases hle
        case measure => simp [intOf]; omega
    · have hij' : i = j := by omega
      subst hij'
      have HPl : Hid (Place l key.toList i) := ⟨hjn, HB.out.1, HB.out.2⟩
      clear HB
      by_cases hin : i < l.length
      · obtain ⟨b, o, cs, rfl, hb, hcs, aa, ca, rfl, hA⟩ := hS.kept hw i hin
        obtain ⟨d, hd⟩ : ∃ d, d = l.getD i NodeD.zero := ⟨_, rfl⟩
        rw [← hd] at hcs
        have HD := hide hd
        clear hd hA
        have c0 := hcs 0 _ rfl
        have c1 := hcs 1 _ rfl
        have c2 := hcs 2 _ rfl
        simp only [Nat.add_zero] at c0
        clear hcs
        have hg' : g < wr.heap.size := Nat.lt_of_lt_of_le hg hw.size
        have hc' : wr.cell? ⟨g, 1, none⟩ = some (.func (.func 70) #[] #[]) := by rw [hw.cell hg]; exact hc
        have hin' : (i : Int) < l.length := by omega
        go_wp2_with fail
        refine (findLit_any _ g d aa ca key hg' hc').mono ?_
        rintro e w1 ⟨rfl, k1⟩
        have hnm : nameAt l i = d.name.toList := by unfold nameAt; rw [← HD.out]
        have HC : Hid (cmpD d.name.toList key.toList = 0 ↔ nameAt l i = key.toList) := by rw [hnm]; exact cmpD_zero
        clear c0 c1 c2 hnm
        generalize cmpD d.name.toList key.toList = r at *
        have hw1 := hw.trans k1
        clear hw k1
        go_wp2
        go_ret2
        refine ⟨Found.mk i _ rfl HPl.out ?_, hw1⟩
        rw [← HC.out]
        simp [hin]
      · have hin' : ¬ (i : Int) < l.length := by omega
        go_wp2
        go_ret2
        exact ⟨Found.mk i false rfl HPl.out (by simp; intro h; exact absurd h hin), hw⟩

set_option maxRecDepth 100000 in
set_option maxHeartbeats 800000 in
theorem find_any (w : World) (a : Option Addr) (cap : Nat) (l : List NodeD) (key : ByteArray) (hl : l.length ≤ 1048576) (hr : Rises l) (hS : Nodes w a l) :
    Calls Try.prog 71 #[.agg #[.slice a l.length cap, .func (.func 70) #[] #[]], .string key] w
      fun e w' => Found l key.toList e ∧ Kept w w' := by
  have k0 : Kept w (w.alloc (.cells #[.slice a l.length cap, .func (.func 70) #[] #[]] 98)) := (Kept.refl _).alloc _
  go_enter Try.func71, Try.ntmps71
  go_wp2_with fail
  refine (search_any _ w.heap.size a cap l key hl hr (by simp) (by simp) (hS.kept k0)).mono ?_
  rintro e w1 ⟨hfo, k1⟩
  obtain ⟨p, f, rfl, hp, hf⟩ := hfo
  have HP := hide hp
  have HF := hide hf
  clear hp hf
  go_wp2
  go_ret2
  exact ⟨Found.mk p f rfl HP.out HF.out, k0.trans k1⟩

end Go.Proofs.Ytfjbdapblmlneaa

/-
  THE WALK over without.
-/
namespace Go.Proofs.Ytfjbdapblmlneaa
open Go.RowKit

/-- Two results, the first in a variable of its own: a struct. -/
theorem bodyPost_ret_cell2 {P : Program} {fn : Func} {R : Ending → World → Prop} {a : Act} {w : World} {p q : Tmp} {ty : TypeId} {b : Nat} (cs : List Value) (d : TypeDesc) (v : Value) (h : fn.results = #[.cell p ty, .tmp q])
    (hp : a.tmps.getD p undef = .pointer (some ⟨b, 0, none⟩)) (hr : w.rangeAt b 0 cs) (hu : P.underlying ty = some d) (hd : d.isRow = true) (hi : (P.info? ty).map (·.size) = some cs.length)
    (hq : a.tmps.getD q undef = v) (hdef : a.defers = []) (hR : R (.returned (.tuple #[.agg cs.toArray, v])) w) : bodyPost P fn R .ret a w := by
  refine bodyPost_ret ?_ hdef hR
  have hp' : a.tmps[p]?.getD undef = .pointer (some ⟨b, 0, none⟩) := by simpa using hp
  have hq' : a.tmps[q]?.getD undef = v := by simpa using hq
  simp only [results, h]
  simp [hp', hq', asAddr, run_loadVar_mid w b 0 ty cs d hr hu hd hi]

/-- A list without its element p. -/
def cutOut (l : List NodeD) (p : Nat) : List NodeD := l.take p ++ l.drop (p + 1)

/-- What is left of a list, and whether something was taken. -/
def Took (l : List NodeD) (key : List UInt8) (w' : World) (e : Ending) : Prop :=
  (∃ a n cap, e = .returned (.tuple #[.agg #[.slice a n cap, .func (.func 70) #[] #[]], .bool false]) ∧ ∀ j, j < l.length → nameAt l j ≠ key) ∨
  (∃ a cap p, e = .returned (.tuple #[.agg #[.slice a (cutOut l p).length cap, .func (.func 70) #[] #[]], .bool true]) ∧ p < l.length ∧ nameAt l p = key ∧ Nodes w' a (cutOut l p))

theorem Nodes.take {w : World} {b o : Nat} {l : List NodeD} (h : Nodes w (some ⟨b, o, none⟩) l) (p : Nat) : Nodes w (some ⟨b, o, none⟩) (l.take p) := by
  intro i hi
  rw [List.length_take] at hi
  obtain ⟨b0, o0, cs, e0, hb, hr, hN⟩ := h i (by omega)
  have e : (l.take p).getD i NodeD.zero = l.getD i NodeD.zero := by simp [List.getD, (by omega : i < p)]
  rw [e]
  exact ⟨b0, o0, cs, e0, hb, hr, hN⟩
theorem Nodes.drop {w : World} {b o : Nat} {l : List NodeD} (h : Nodes w (some ⟨b, o, none⟩) l) (p : Nat) : Nodes w (some ⟨b, o + p * 3, none⟩) (l.drop p) := by
  intro i hi
  rw [List.length_drop] at hi
  obtain ⟨b0, o0, cs, e0, hb, hr, hN⟩ := h (p + i) (by omega)
  simp only [Option.some.injEq, Addr.mk.injEq, and_true] at e0
  obtain ⟨rfl, rfl⟩ := e0
  have e : (l.drop p).getD i NodeD.zero = l.getD (p + i) NodeD.zero := by simp [List.getD, List.getElem?_drop]
  rw [e]
  refine ⟨b, o + p * 3, cs, rfl, hb, ?_, hN⟩
  have e2 : o + p * 3 + i * 3 = o + (p + i) * 3 := by omega
  rw [e2]
  exact hr

/-- Cells that were a list of nodes, later. -/
theorem news_of {w0 w : World} (k : Kept w0 w) {b o : Nat} {l : List NodeD} (hS : Nodes w0 (some ⟨b, o, none⟩) l) : ∃ news, Packed w0 news l ∧ ∀ j u, news[j]? = some u → w.cell? ⟨b, o + j, none⟩ = some u := by
  obtain ⟨news, h1, h2⟩ := packed_of_nodes hS
  refine ⟨news, h1, fun j u hu => ?_⟩
  have h := h2 j u hu
  rw [Addr.add_mid] at h
  rw [k.cell (World.block_lt_of_cell? _ _ h)]
  exact h

/-- The two parts of a list, as they are handed to Concat. -/
theorem rows_two {w1 w0 : World} (k0 : Kept w0 w1) {b o o2 cap c2 p : Nat} {l : List NodeD} {t : TypeId} (hS : Nodes w0 (some ⟨b, o, none⟩) l) (hp : p < l.length) (ho : l.length = p + 1 ∨ o2 = o + (p + 1) * 3) :
    Rows2 (w1.alloc (.cells #[.slice (some ⟨b, o, none⟩) p cap, .slice (some ⟨b, o2, none⟩) (l.length - (p + 1)) c2] t)).drew w0 w1.heap.size [l.take p, l.drop (p + 1)] (fun i => if i = 0 then (b, o) else (b, o2)) (fun i => if i = 0 then cap else c2) := by
  have k1 : Kept w0 (w1.alloc (.cells #[.slice (some ⟨b, o, none⟩) p cap, .slice (some ⟨b, o2, none⟩) (l.length - (p + 1)) c2] t)).drew := k0.trans ((Kept.refl _).alloc _).drew
  refine ⟨by show w1.heap.size < (w1.alloc _).heap.size; simp, fun i hi => ?_⟩
  match i, hi with
  | 0, _ =>
    refine ⟨?_, news_of k1 (hS.take p)⟩
    show (w1.alloc _).cell? _ = _
    simp [List.length_take, Nat.min_eq_left (Nat.le_of_lt hp)]
  | 1, _ =>
    refine ⟨?_, ?_⟩
    · show (w1.alloc _).cell? _ = _
      simp
    · refine news_of (o := o2) k1 ?_
      show Nodes _ (some ⟨b, o2, none⟩) (l.drop (p + 1))
      rcases ho with h | rfl
      · intro i hi
        rw [List.length_drop] at hi
        omega
      · exact hS.drop (p + 1)
  | i + 2, hi =>
    exfalso
    simp at hi
    omega

theorem cut_sum {l : List NodeD} (p : Nat) (hl : l.length ≤ 1048576) : (([l.take p, l.drop (p + 1)] : List (List NodeD)).map List.length).sum ≤ 3145728 := by
  simp [List.length_take, List.length_drop]
  omega

theorem cut_flat (l : List NodeD) (p : Nat) : ([l.take p, l.drop (p + 1)] : List (List NodeD)).flatten = cutOut l p := by simp [cutOut]

/-- Concat of the two parts. -/
theorem concat_two {w1 w0 : World} (k0 : Kept w0 w1) {b o o2 cap c2 p : Nat} {l : List NodeD} {t : TypeId} (hl : l.length ≤ 1048576) (hS : Nodes w0 (some ⟨b, o, none⟩) l) (hp : p < l.length) (ho : l.length = p + 1 ∨ o2 = o + (p + 1) * 3) :
    Calls Try.prog 72 #[.slice (some ⟨w1.heap.size, 0, none⟩) 2 2] (w1.alloc (.cells #[.slice (some ⟨b, o, none⟩) p cap, .slice (some ⟨b, o2, none⟩) (l.length - (p + 1)) c2] t)).drew
      fun e w' => ∃ a' cap' xs base, e = .returned (.slice a' (cutOut l p).length cap') ∧ w1.heap.size ≤ base ∧ w'.ownsRow base 60 3 (.slice a' (cutOut l p).length cap') (cutOut l p).length xs ∧ Packed w0 xs (cutOut l p) ∧ Kept w1 w' := by
  have k1 : Kept w1 (w1.alloc (.cells #[.slice (some ⟨b, o, none⟩) p cap, .slice (some ⟨b, o2, none⟩) (l.length - (p + 1)) c2] t)).drew := ((Kept.refl _).alloc _).drew
  refine (concat_any _ w0 w1.heap.size 2 [l.take p, l.drop (p + 1)] _ _ (by simp) (cut_sum p hl) (rows_two k0 hS hp ho)).mono ?_
  rintro e w' ⟨v, xs, he, hO, hP, k⟩
  rw [cut_flat] at hO hP
  obtain ⟨_, a', cap', rfl, _, _⟩ := nodes_of_owned hO (hP.kept ((k0.trans k1).trans k))
  exact ⟨a', cap', xs, _, he, k1.size, hO, hP, k1.trans k⟩

set_option maxRecDepth 100000 in
set_option maxHeartbeats 1600000 in
theorem without_any (w : World) (b o : Nat) (cap : Nat) (l : List NodeD) (key : ByteArray) (hl : l.length ≤ 1048576) (hcap : l.length ≤ cap) (hr : Rises l) (hS : Nodes w (some ⟨b, o, none⟩) l) :
    Calls Try.prog 63 #[.agg #[.slice (some ⟨b, o, none⟩) l.length cap, .func (.func 70) #[] #[]], .string key] w
      fun e w' => Took l key.toList w' e ∧ Kept w w' := by
  go_enter Try.func63, Try.ntmps63
  go_wp2_with fail
  refine (find_any _ (some ⟨b, o, none⟩) cap l key hl hr (hS.kept (by repeat (first | apply Kept.alloc | exact Kept.refl _)))).mono ?_
  rintro e w1 ⟨hfo, k1⟩
  obtain ⟨p, f, rfl, hp, hf⟩ := hfo
  have K1 : Kept w w1 := Kept.trans (by repeat (first | apply Kept.alloc | exact Kept.refl _)) k1
  have z1 := k1.size
  simp only [World.size_alloc] at z1
  have q0 : w1.cell? ⟨w.heap.size, 0, none⟩ = some (.slice (some ⟨b, o, none⟩) l.length cap) := by rw [k1.cell (by simp <;> omega)]; simp
  have q1 : w1.cell? ⟨w.heap.size, 1, none⟩ = some (.func (.func 70) #[] #[]) := by rw [k1.cell (by simp <;> omega)]; simp
  have hrow1 : Row w1 (w.heap.size + 1) 2 := Row.kept (by have := Row.made (w.alloc (.cells #[.slice (some ⟨b, o, none⟩) l.length cap, .func (.func 70) #[] #[]] 98)) #[.slice none 0 0, .nilFunc] 98; simpa using this) k1
  obtain ⟨⟨_, x0⟩, g0⟩ := hrow1.at (i := 0) (by omega)
  obtain ⟨⟨_, x1⟩, g1⟩ := hrow1.at (i := 1) (by omega)
  have HR1 := hide hrow1
  have HP := hide hp
  have HF := hide hf
  clear hrow1 hp hf k1
  cases f
  · go_wp2
    have hR := World.rangeAt_setCells_same w1 (w.heap.size + 1) 0 [.slice (some ⟨b, o, none⟩) l.length cap, .func (.func 70) #[] #[]] (HR1.out.there (o := 0) (m := 2) (Nat.le_refl _))
    refine bodyPost_ret_cell2 [.slice (some ⟨b, o, none⟩) l.length cap, .func (.func 70) #[] #[]] _ (.bool false) Try.results63 rfl hR Try.underlying98 rfl Try.sizeSorted rfl rfl ⟨.inl ⟨_, _, _, rfl, fun j hj e => ?_⟩, ?_⟩
    · have := HP.out.only hr hj e
      subst this
      have := HF.out.2 ⟨hj, e⟩
      cases this
    · repeat (first | (refine Kept.setCell ?_ (by simp <;> omega) _) | exact K1)
  · have hpl := HF.out.1 rfl
    have hpn := hpl.1
    have HSO : Hid (∀ w', KeptBut (w.heap.size + 1) (w.heap.size + 2) w1 w' → (fun w' => w'.cell? ⟨w.heap.size, 0, none⟩ = some (.slice (some ⟨b, o, none⟩) l.length cap) ∧ w'.cell? ⟨w.heap.size, 1, none⟩ = some (.func (.func 70) #[] #[])) w') := fun w' kk => have ks := kk.same (l2 := w.heap.size) (h2 := w.heap.size + 1) (by omega); ⟨(ks.cell (Nat.le_refl _) (by omega) (by omega)).trans q0, (ks.cell (Nat.le_refl _) (by omega) (by omega)).trans q1⟩
    have i1 : (p : Int) ≤ (cap : Int) := by omega
    have i2 : (p : Int) + 1 ≤ (l.length : Int) := by omega
    have i3 : IntKind.i64.wrap ((p : Int) + 1) = (p : Int) + 1 := wrap_i64_in (by omega) (by omega)
    have i4 : (p : Int) + 1 ≤ (cap : Int) := by omega
    by_cases hce : cap = p + 1
    · have hln : l.length = p + 1 := by omega
      have hC := concat_two (c2 := 0) (cap := p + 1) (o2 := o) (t := 48) K1 hl hS hpn (.inl hln)
      rw [show l.length - (p + 1) = 0 by omega] at hC
      have HC := hide hC
      clear hC
      go_wp2
      go_region_held (fun w' => w'.cell? ⟨w.heap.size, 0, none⟩ = some (.slice (some ⟨b, o, none⟩) l.length cap) ∧ w'.cell? ⟨w.heap.size, 1, none⟩ = some (.func (.func 70) #[] #[])) (exact unhide HSO _ (by repeat (first | exact KeptBut.refl _ _ _ | exact KeptBut.of_kept (by assumption) | apply KeptBut.drew | (refine KeptBut.setCell ?_ (by simp) (by simp) _) | apply KeptBut.alloc))) ((go_at_call 72; refine (unhide HC).mono ?_; rintro e w2 ⟨a', cap', xs, base, rfl, hbase, hO, hP, kk⟩; have HR2 := hide (HR1.out.kept kk); obtain ⟨⟨_, y0⟩, e0⟩ := HR2.out.at (i := 0) (by omega); obtain ⟨⟨_, y1⟩, e1⟩ := HR2.out.at (i := 1) (by omega); have HO := hide hO; have HPk := hide hP; clear hO hP))
      all_goals
        go_wp2
        have hR := World.rangeAt_setCells_same w2 (w.heap.size + 1) 0 [.slice a' (cutOut l p).length cap', .func (.func 70) #[] #[]] (HR2.out.there (o := 0) (m := 2) (Nat.le_refl _))
        have kf : Kept w ((w2.setCell ⟨w.heap.size + 1, 0, none⟩ (.slice a' (cutOut l p).length cap')).setCell ⟨w.heap.size + 1, 1, none⟩ (.func (.func 70) #[] #[])) := ((K1.trans kk).setCell (by simp) _).setCell (by simp) _
        have hO2 := owns_set (owns_set HO.out (p := ⟨w.heap.size + 1, 0, none⟩) (by simp <;> omega) (.slice a' (cutOut l p).length cap')) (p := ⟨w.heap.size + 1, 1, none⟩) (by simp <;> omega) (.func (.func 70) #[] #[])
        obtain ⟨_, a2, cap2, ev, _, hN⟩ := nodes_of_owned hO2 (HPk.out.kept kf)
        simp only [Value.slice.injEq, true_and] at ev
        obtain ⟨rfl, rfl⟩ := ev
        exact bodyPost_ret_cell2 [.slice a' (cutOut l p).length cap', .func (.func 70) #[] #[]] _ (.bool true) Try.results63 rfl hR Try.underlying98 rfl Try.sizeSorted rfl rfl ⟨.inr ⟨a', cap', p, rfl, hpn, hpl.2, hN⟩, kf⟩
    · have HC := hide (concat_two (c2 := cap - (p + 1)) (cap := cap) (o2 := o + (p + 1) * 3) (t := 48) K1 hl hS hpn (.inr rfl))
      go_wp2
      go_region_held (fun w' => w'.cell? ⟨w.heap.size, 0, none⟩ = some (.slice (some ⟨b, o, none⟩) l.length cap) ∧ w'.cell? ⟨w.heap.size, 1, none⟩ = some (.func (.func 70) #[] #[])) (exact unhide HSO _ (by repeat (first | exact KeptBut.refl _ _ _ | exact KeptBut.of_kept (by assumption) | apply KeptBut.drew | (refine KeptBut.setCell ?_ (by simp) (by simp) _) | apply KeptBut.alloc))) ((go_at_call 72; refine (unhide HC).mono ?_; rintro e w2 ⟨a', cap', xs, base, rfl, hbase, hO, hP, kk⟩; have HR2 := hide (HR1.out.kept kk); obtain ⟨⟨_, y0⟩, e0⟩ := HR2.out.at (i := 0) (by omega); obtain ⟨⟨_, y1⟩, e1⟩ := HR2.out.at (i := 1) (by omega); have HO := hide hO; have HPk := hide hP; clear hO hP))
      all_goals
        go_wp2
        have hR := World.rangeAt_setCells_same w2 (w.heap.size + 1) 0 [.slice a' (cutOut l p).length cap', .func (.func 70) #[] #[]] (HR2.out.there (o := 0) (m := 2) (Nat.le_refl _))
        have kf : Kept w ((w2.setCell ⟨w.heap.size + 1, 0, none⟩ (.slice a' (cutOut l p).length cap')).setCell ⟨w.heap.size + 1, 1, none⟩ (.func (.func 70) #[] #[])) := ((K1.trans kk).setCell (by simp) _).setCell (by simp) _
        have hO2 := owns_set (owns_set HO.out (p := ⟨w.heap.size + 1, 0, none⟩) (by simp <;> omega) (.slice a' (cutOut l p).length cap')) (p := ⟨w.heap.size + 1, 1, none⟩) (by simp <;> omega) (.func (.func 70) #[] #[])
        obtain ⟨_, a2, cap2, ev, _, hN⟩ := nodes_of_owned hO2 (HPk.out.kept kf)
        simp only [Value.slice.injEq, true_and] at ev
        obtain ⟨rfl, rfl⟩ := ev
        exact bodyPost_ret_cell2 [.slice a' (cutOut l p).length cap', .func (.func 70) #[] #[]] _ (.bool true) Try.results63 rfl hR Try.underlying98 rfl Try.sizeSorted rfl rfl ⟨.inr ⟨a', cap', p, rfl, hpn, hpl.2, hN⟩, kf⟩

end Go.Proofs.Ytfjbdapblmlneaa
