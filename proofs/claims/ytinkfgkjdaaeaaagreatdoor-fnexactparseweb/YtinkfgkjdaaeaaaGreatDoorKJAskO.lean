import Derived.Test.YtinkfgkjdaaeaaaGreatDoorKJUint
import Derived.Test.YtinkfgkjdaaeaaaGreatDoorKJEnv
import Derived.Deep.AppendLies
import Derived.Test.YtinkfgkjdaaeaaaGreatDoorKOPackN

namespace Go.Proofs.YtinkfgkjdaaeaaaGreatDoor
open Go.RowKit

def unqR (l : List UInt8) : Option (List UInt8) := unqI l.length l
theorem unqR_plain {c : UInt8} {r : List UInt8} (h : c ≠ 92) : unqR (c :: r) = (unqR r).map (c :: ·) := by
  unfold unqR
  rw [List.length_cons, unqI, if_neg h]
theorem unqR_esc {r : List UInt8} {v : Nat} (h : hexU (r.take 2) = some v) : unqR (92 :: r) = (unqR (r.drop 2)).map (UInt8.ofNat v :: ·) := by
  unfold unqR
  rw [List.length_cons, unqI, if_pos rfl, h]
  simp only
  rw [unqI_more _ _ (by rw [List.length_drop]; omega)]
theorem unqR_bad {r : List UInt8} (h : hexU (r.take 2) = none) : unqR (92 :: r) = none := by
  unfold unqR
  rw [List.length_cons, unqI, if_pos rfl, h]

def UnqEnd (w : World) (po : Addr) (l : List UInt8) (e : Ending) : Prop :=
  (∃ t, unqP l = some t ∧ e = .returned (.tuple #[.string (toB t), .nilIface]) ∧ t.length ≤ l.length) ∨ (∃ p, unqP l = none ∧ e = .returned (.tuple #[.string ⟨#[]⟩, .iface 211 (.pointer (some p))]) ∧ p ≠ po ∧ ErrAt w 5 p)

theorem inner_len (l : List UInt8) : (inner l).length ≤ l.length := by
  unfold inner Lib.trimSuffix Lib.trimPrefix
  split <;> split <;> (try simp only [List.length_take, List.length_drop]) <;> omega
theorem ext_two (s : ByteArray) (k m : Nat) (hk : k < s.size) (hm : m = min (k + 3) s.size) : (s.extract (k + 1) m).data.toList = (s.data.toList.drop (k + 1)).take 2 ∧ (s.extract (k + 1) m).size ≤ 2 := by
  have hl : s.data.toList.length = s.size := by simp
  refine ⟨?_, by rw [ByteArray.size_extract]; omega⟩
  rw [Lib.extract_data]
  by_cases h : k + 3 ≤ s.size
  · rw [show m - (k + 1) = 2 by omega]
  · rw [List.take_of_length_le (by rw [List.length_drop]; omega), List.take_of_length_le (by rw [List.length_drop]; omega)]

theorem quotesL_ge : ∀ l : List UInt8, l.length ≤ (quotesL l).length
  | [] => by simp [quotesL]
  | c :: r => by
    have h2 := quotesL_ge r
    have h1 : 1 ≤ (quoteB c).length := by unfold quoteB; split <;> simp
    simp only [quotesL, List.flatMap_cons, List.length_append, List.length_cons] at h2 ⊢
    omega
theorem quoteL_ge (l : List UInt8) : l.length ≤ (quoteL l).length := by
  have := quotesL_ge l
  simp only [quoteL, List.length_cons, List.length_append, List.length_nil]
  omega

set_option maxRecDepth 100000 in
set_option maxHeartbeats 3200000 in
theorem unquote_any (w : World) (s : ByteArray) (hs : s.size ≤ 100000) {po : Addr} (hE : Env po w) :
    Calls Tryz.prog 75 #[.string s] w fun e w' => UnqEnd w po s.data.toList e ∧ Kept w w' := by
  obtain ⟨pq, hpq, hne⟩ := hE.quo
  have HE := hide hE
  have HPQ := hide hpq
  clear hE hpq
  obtain ⟨S, hS⟩ : ∃ S : ByteArray, S = toB (inner s.data.toList) := ⟨_, rfl⟩
  have hSl : S.data.toList = inner s.data.toList := by rw [hS]; rfl
  have hSz : S.size ≤ s.size := by
    have h1 := inner_len s.data.toList
    rw [← hSl] at h1
    simpa using h1
  have HSl := hide hSl
  clear hSl
  go_enter Tryz.func75, Tryz.ntmps75
  go_wp2_with fail
  refine (Tryz.strings_TrimPrefix s ⟨#[34]⟩ _).mono ?_
  rintro e w1 ⟨rfl, rfl⟩
  go_wp2_with fail
  refine (Tryz.strings_TrimSuffix _ ⟨#[34]⟩ _ (by
    show (Lib.trimPrefix s.data.toList [34]).length ≤ _
    have h1 : s.data.toList.length = s.size := by simp
    unfold Lib.trimPrefix
    split <;> (try simp only [List.length_drop]) <;> omega)).mono ?_
  rintro e w2 ⟨he, rfl⟩
  obtain rfl : e = .returned (.string S) := he.trans (by rw [hS]; rfl)
  clear he hS
  obtain ⟨W0, hW0⟩ : ∃ W0, W0 = w2.alloc (.cells #[.pointer none, .slice none 0 0] 154) := ⟨_, rfl⟩
  have HB0 : Hid (Buil 154 w2.heap.size w2.heap.size w2.heap.size [] W0) := by rw [hW0]; exact Buil.fresh _ w2 _
  have K0 : Hid (Below w2.heap.size w2 W0) := by rw [hW0]; exact (Kept.refl w2).alloc _
  have HN0 : Hid (W0.heap[w2.heap.size]? = some (.cells #[.pointer none, .slice none 0 0] 154 (0, 0))) := by rw [hW0]; exact heap_alloc_new w2 _
  go_wp2
  rw [← hW0]
  clear hW0
  go_loopw [6] (fun i wr => ∃ (k : Nat) (o : List UInt8), k ≤ S.size + 1 ∧ i = .int .i64 k ∧ Hid (Buil 154 w2.heap.size w2.heap.size w2.heap.size o wr) ∧ Hid (Below w2.heap.size w2 wr) ∧ (o.length ≤ k ∧ o.length ≤ S.size) ∧ Hid (o = [] → wr = W0) ∧ Hid (unqR S.data.toList = (unqR (S.data.toList.drop k)).map (o ++ ·))) (fun i _ => S.size + 2 - (intOf i).toNat)
  case atStart => exact ⟨0, [], Nat.zero_le _, rfl, HB0, K0, ⟨Nat.le_refl _, Nat.zero_le _⟩, fun _ => rfl, by show _ = _; simp⟩
  case round =>
    obtain ⟨k, o, hk, rfl, HB, HK, hok, HW, HU⟩ := hrel
    clear HB0 K0
    have hEr := HE.out.kept HK.out
    have HEr := hide hEr
    clear hEr
    by_cases hlt : (k : Int) < (S.size : Int)
    · have hkl : k < S.size := by omega
      have hkt : k < S.data.toList.length := by simpa using hkl
      have hxe : S.data.toList[k] = S[k] := by simp; rfl
      obtain ⟨x, hx⟩ : ∃ x, x = S[k] := ⟨_, rfl⟩
      have hd : S.data.toList.drop k = x :: S.data.toList.drop (k + 1) := by rw [List.drop_eq_getElem_cons hkt, hxe, hx]
      rw [hd] at HU
      clear hd hxe
      have hxl := x.toNat_lt
      have hsc : (S.size : Int) ≤ 100000 := by omega
      by_cases h92 : x = 92
      · subst h92
        have e92 : ((S[k].toNat : Int) == 92) = true := by rw [← hx]; rfl
        obtain ⟨hx1, hx2⟩ := ext_two S k ((min ((k : Int) + 3) (S.size : Int)).toNat) hkl (by omega)
        have HX1 := hide hx1
        clear hx1
        go_wp2_with fail
        generalize S.extract (k + 1) (min ((k : Int) + 3) (S.size : Int)).toNat = Q at *
        refine (parseUint_any _ Q hx2 HEr.out).mono ?_
        rintro e w4 ⟨he, k4⟩
        have HE4 := hide (HEr.out.kept k4)
        have HK4 := hide (HK.out.trans (Below.mono k4 HK.out.size))
        have HB4 := hide (HB.out.kept k4)
        clear HB HK HEr k4
        rcases he with ⟨v, hv, hv2, rfl⟩ | ⟨hv, tt, pp, rfl⟩
        · rw [HX1.out] at hv
          have HU2 : Hid (unqR S.data.toList = (unqR (S.data.toList.drop (k + 3))).map ((o ++ [UInt8.ofNat v]) ++ ·)) := by
            have := HU.out
            rw [unqR_esc hv, List.drop_drop] at this
            show _ = _
            rw [this]
            cases unqR (S.data.toList.drop (k + 1 + 2)) <;> simp
          have hk2 : k + 1 < S.size := by
            rcases Nat.lt_or_ge (k + 1) S.size with h | h
            · exact h
            · rw [List.drop_eq_nil_of_le (by simp; omega)] at hv
              cases hv
          clear HU hv HX1
          have hvb : IntKind.u8.wrap (v : Int) = ((UInt8.ofNat v).toNat : Int) := by
            rw [IntKind.wrap_u8]
            simp
          go_wp2_with fail
          refine (writeByte_any _ w2.heap.size w2.heap.size w2.heap.size buildT1 o (UInt8.ofNat v) HB4.out (by omega) HK4.out.size HB4.out.lt).mono ?_
          rintro e w5 ⟨rfl, hB5, hb5, _⟩
          have HB5 := hide hB5
          have HK5 := hide (Below.trans HK4.out hb5)
          clear hB5 hb5 HB4 HK4 hvb
          go_wp2
          go_roundw
          case rel => exact ⟨k + 3, o ++ [UInt8.ofNat v], by omega, by go_num, HB5, HK5, by simp; omega, fun h => absurd h (by simp), HU2⟩
          case measure => simp [intOf]; omega
        · rw [HX1.out] at hv
          have HN : Hid (unqP s.data.toList = none) := by
            have := HU.out
            rw [unqR_bad hv] at this
            show unqP _ = none
            unfold unqP
            rw [← HSl.out]
            have h2 : unqI S.data.toList.length S.data.toList = none := this
            rw [h2]
          have hq := (HPQ.out.kept HK4.out).2.1
          clear HU hv HX1
          go_wp2
          go_region
          go_wp2
          go_ret2
          exact ⟨.inr ⟨pq, HN.out, rfl, hne, HPQ.out⟩, Kept.drew HK4.out⟩
      · have e92 : ((S[k].toNat : Int) == 92) = false := by
          rw [← hx]
          have : x.toNat ≠ 92 := fun e => h92 (UInt8.toNat_inj.1 e)
          simp; omega
        have HU2 : Hid (unqR S.data.toList = (unqR (S.data.toList.drop (k + 1))).map ((o ++ [x]) ++ ·)) := by
          have := HU.out
          rw [unqR_plain h92] at this
          show _ = _
          rw [this]
          cases unqR (S.data.toList.drop (k + 1)) <;> simp
        clear HU
        go_wp2_with fail
        rw [← hx]
        refine (writeByte_any _ w2.heap.size w2.heap.size w2.heap.size buildT1 o x HB.out (by omega) HK.out.size HB.out.lt).mono ?_
        rintro e w4 ⟨rfl, hB4, hb4, _⟩
        have HB4 := hide hB4
        have HK4 := hide (Below.trans HK.out hb4)
        clear hB4 hb4 HB HK
        go_wp2
        go_roundw
        case rel => exact ⟨k + 1, o ++ [x], by omega, by go_num, HB4, HK4, by simp; omega, fun h => absurd h (by simp), HU2⟩
        case measure => simp [intOf]; omega
    · have hdr : S.data.toList.drop k = [] := List.drop_eq_nil_of_le (by simp; omega)
      have HO : Hid (unqI (inner s.data.toList).length (inner s.data.toList) = some o) := by
        have := HU.out
        rw [hdr] at this
        rw [← HSl.out]
        show unqR _ = _
        rw [this]
        simp [unqR, unqI]
      have hoz : o.length ≤ 100001 := by omega
      have hol : o.length ≤ S.size + 1 := by omega
      clear HU hdr
      have hstr : Hid (Calls Tryz.prog 97 #[.pointer (some ⟨w2.heap.size, 0, none⟩)] wr fun e w' => e = .returned (.string (toB o)) ∧ Below w2.heap.size wr w') := by
        by_cases h0 : o = []
        · subst h0
          have := HN0.out
          rw [← HW.out rfl] at this
          exact (builderString_nil wr w2.heap.size w2.heap.size _ this).mono (fun e w' h => h)
        · exact (builderString_any wr w2.heap.size w2.heap.size w2.heap.size o HB.out h0).mono (fun e w' h => h)
      go_wp2_with fail
      refine hstr.out.mono ?_
      rintro e w4 ⟨rfl, k4⟩
      have HE4 := hide (HE.out.kept (HK.out.trans k4))
      have HK4 := hide (HK.out.trans k4)
      clear HB HK HEr k4 hstr
      have hto : (toB o).size = o.length := by simp [toB, ByteArray.size]
      go_wp2_with fail
      refine (quote_any _ (toB o) (by omega) HE4.out.tab).mono ?_
      rintro e w5 ⟨rfl, k5⟩
      have hq := (HPQ.out.kept (HK4.out.trans (Below.mono k5 HK4.out.size))).2.1
      have HK5 := hide (HK4.out.trans (Below.mono k5 HK4.out.size))
      clear k5
      obtain ⟨d, hd⟩ : ∃ d : ByteArray, d = ⟨(quoteL (toB o).data.toList).toArray⟩ := ⟨_, rfl⟩
      rw [← hd]
      have hdl : d.data.toList = quoteL o := by rw [hd]; rfl
      clear hd
      by_cases he : d = s
      · have e0 : (d.toList == s.toList) = true := bytes_eq.2 he
        have HP : Hid (unqP s.data.toList = some o) := by
          show unqP _ = _
          unfold unqP
          rw [HO.out]
          simp only
          rw [if_pos (by rw [← hdl, he])]
        have hlen : o.length ≤ s.data.toList.length := by
          have h1 : s.data.toList.length = s.size := by simp
          have h2 := quoteL_ge o
          rw [← hdl, he] at h2
          omega
        clear hdl he
        go_wp2
        go_ret2
        exact ⟨.inl ⟨o, HP.out, rfl, hlen⟩, HK5.out⟩
      · have e0 : (d.toList == s.toList) = false := by
          cases hx : (d.toList == s.toList)
          · rfl
          · exact absurd (bytes_eq.1 hx) he
        have HP : Hid (unqP s.data.toList = none) := by
          show unqP _ = _
          unfold unqP
          rw [HO.out]
          simp only
          rw [if_neg (fun h => he (by rw [← toB_data d, hdl, h]; rfl))]
        clear hdl he
        go_wp2
        go_region
        go_wp2
        go_ret2
        exact ⟨.inr ⟨pq, HP.out, rfl, hne, HPQ.out⟩, Kept.drew HK5.out⟩

end Go.Proofs.YtinkfgkjdaaeaaaGreatDoor

namespace Go.Proofs.YtinkfgkjdaaeaaaGreatDoor
open Go.RowKit

def IsErr (v : Value) : Prop := v = .nilIface ∨ ∃ p, v = .iface 211 (.pointer (some p))
def Errs (w : World) (b : Nat) (es : List Value) : Prop := b < w.heap.size ∧ ∀ i, i < es.length → w.cell? ⟨b, i, none⟩ = some (es.getD i .nilIface) ∧ IsErr (es.getD i .nilIface)
theorem Errs.kept {w w' : World} {b : Nat} {es : List Value} (h : Errs w b es) (k : Kept w w') : Errs w' b es := ⟨Nat.lt_of_lt_of_le h.1 k.size, fun i hi => ⟨by rw [k.cell h.1]; exact (h.2 i hi).1, (h.2 i hi).2⟩⟩
def AllNil (es : List Value) : Prop := ∀ v ∈ es, v = .nilIface
def JoinEnd (es : List Value) (e : Ending) : Prop := (AllNil es ∧ e = .returned .nilIface) ∨ (¬ AllNil es ∧ ∃ N, e = .returned (.iface 195 (.pointer (some N))))

theorem Tryz.infoErr : (Tryz.prog.info? 35).map (fun i => (i.zero, i.size, i.bytes)) = some (some .nilIface, 1, 16) := by kernel_rfl

set_option maxRecDepth 100000 in
set_option maxHeartbeats 1600000 in
theorem join_any (w : World) (b cap : Nat) (es : List Value) (hE : Errs w b es) (hl : es.length ≤ 3) :
    Calls Tryz.prog 118 #[.slice (some ⟨b, 0, none⟩) es.length cap] w fun e w' => JoinEnd es e ∧ Kept w w' := by
  obtain ⟨i0, hi, hz0, hz1, hz2⟩ := info_parts Tryz.infoErr
  have HE := hide hE
  clear hE
  go_enter Tryz.func118, Tryz.ntmps118
  go_wp2
  go_loopw [3, 11] (fun n i wr => wr = w ∧ ∃ k m : Nat, k ≤ es.length ∧ i = .int .i64 k ∧ n = .int .i64 m ∧ m ≤ k ∧ Hid (m = 0 ↔ ∀ j, j < k → es.getD j .nilIface = .nilIface)) (fun _ i _ => es.length - (intOf i).toNat)
  case atStart => exact ⟨rfl, 0, 0, Nat.zero_le _, rfl, rfl, Nat.le_refl _, by simp [Hid]⟩
  case round =>
    obtain ⟨rfl, k, m, hk, rfl, rfl, hm, HM⟩ := hrel
    by_cases hlt : (k : Int) < (es.length : Int)
    · obtain ⟨c0, hv⟩ := HE.out.2 k (by omega)
      have HV : Hid (∃ v, v = es.getD k .nilIface) := ⟨_, rfl⟩
      obtain ⟨v, hve⟩ := HV.out
      rw [← hve] at c0 hv
      have HVE := hide hve
      clear hve HV
      rcases hv with rfl | ⟨p, rfl⟩
      · go_wp2
        go_roundw
        case rel =>
          refine ⟨trivial, k + 1, m, by omega, by go_num, rfl, by omega, ?_⟩
          show _ ↔ _
          rw [HM.out]
          constructor
          · intro h j hj
            rcases Nat.lt_or_ge j k with h' | h'
            · exact h j h'
            · obtain rfl : j = k := by omega
              exact HVE.out.symm
          · exact fun h j hj => h j (by omega)
        case measure => simp [intOf]; omega
      · go_wp2
        go_roundw
        case rel =>
          refine ⟨trivial, k + 1, m + 1, by omega, by go_num, by go_num, by omega, ?_⟩
          show _ ↔ _
          constructor
          · intro h; omega
          · intro h
            have := h k (by omega)
            rw [← HVE.out] at this
            cases this
        case measure => simp [intOf]; omega
    · obtain rfl : k = es.length := by omega
      have HA : Hid (m = 0 ↔ AllNil es) := by
        show _ ↔ _
        rw [HM.out]
        constructor
        · intro h v hv
          obtain ⟨i, hi, rfl⟩ := List.getElem_of_mem hv
          have := h i hi
          simpa [List.getD, hi] using this
        · intro h j hj
          have := h (es[j]) (by simp)
          simpa [List.getD, hj] using this
      clear HM
      by_cases h0 : m = 0
      · have HA' := hide (HA.out.1 h0)
        subst h0
        go_wp2
        go_ret
        exact ⟨.inl ⟨HA'.out, rfl⟩, Kept.refl _⟩
      · have HA' := hide (fun h => h0 (HA.out.2 h))
        have e0 : ((m : Int) == 0) = false := by simpa using h0
        have hmk := run_make (P := Tryz.prog) wr 149 35 i0 .nilIface Tryz.underlying149 hi hz0 .i64 .i64 0 m (by omega) (by omega) (by rw [hz2]; omega) (by omega)
        clear HA h0
        rw [hz1] at hmk
        obtain ⟨w0, hw0⟩ : ∃ w0, w0 = wr := ⟨_, rfl⟩
        obtain ⟨W1, hW1⟩ : ∃ W1, W1 = wr.alloc (.cells (madeCells Value.nilIface.cells ((m : Int).toNat * 1)) 35) := ⟨_, rfl⟩
        rw [← hW1] at hmk
        have HJ : Hid (W1.heap.size = w0.heap.size + 1) := by show _ = _; rw [hW1, hw0]; simp
        have HO : Hid (W1.ownsRow w0.heap.size 35 1 (.slice (some ⟨w0.heap.size, 0, none⟩) 0 m) 0 []) := by
          refine ⟨rfl, .inr ⟨w0.heap.size, m, madeCells Value.nilIface.cells ((m : Int).toNat * 1), rfl, Nat.le_refl _, ?_, by omega, by unfold maxLen; omega, ?_, by simp⟩⟩
          · rw [hW1, hw0]; exact heap_alloc_new _ _
          · rw [size_madeCells]; simp
        have K1 : Hid (Kept w0 W1) := by rw [hW1, hw0]; exact (Kept.refl _).alloc _
        have HE0 : Hid (Errs w0 b es) := by rw [hw0]; exact HE
        rw [← hw0] at hmk
        clear hW1 HE
        subst hw0
        go_wp2
        have HR2 : Hid (RowT (W1.alloc (.cells #[.slice (some ⟨w0.heap.size, 0, none⟩) 0 m] 197)) W1.heap.size 197 1) := RowT.made W1 _ _
        have HC2 : Hid ((W1.alloc (.cells #[.slice (some ⟨w0.heap.size, 0, none⟩) 0 m] 197)).cell? ⟨W1.heap.size, 0, none⟩ = some (.slice (some ⟨w0.heap.size, 0, none⟩) 0 m)) := by
          show _ = _
          exact range_new W1 #[.slice (some ⟨w0.heap.size, 0, none⟩) 0 m] 197 0 _ rfl
        have hkA : Kept W1 (W1.alloc (.cells #[.slice (some ⟨w0.heap.size, 0, none⟩) 0 m] 197)) := (Kept.refl _).alloc _
        have HO2 := hide (ownsRow_kept' HO.out hkA)
        have K2 := hide (K1.out.trans hkA)
        clear hkA HO K1
        generalize hJb : W1.heap.size = J at *
        generalize W1.alloc (.cells #[.slice (some ⟨w0.heap.size, 0, none⟩) 0 m] 197) = W2 at *
        clear hmk hJb
        go_loopw [28] (fun i wr => ∃ (k n : Nat) (v : Value) (xs : List Value), k ≤ es.length ∧ n ≤ k ∧ i = .int .i64 k ∧ Hid (Kept w0 wr) ∧ Hid (RowT wr J 197 1) ∧ Hid (wr.cell? ⟨J, 0, none⟩ = some v) ∧ Hid (wr.ownsRow w0.heap.size 35 1 v n xs)) (fun i _ => es.length - (intOf i).toNat)
        case atStart => exact ⟨0, 0, _, [], Nat.zero_le _, Nat.le_refl _, rfl, K2, HR2, HC2, HO2⟩
        case round =>
          obtain ⟨k, n, v, xs, hk, hn, rfl, HK, HR, HC, HO⟩ := hrel
          clear K2 HR2 HC2 HO2
          by_cases hlt : (k : Int) < (es.length : Int)
          · obtain ⟨c0, hv⟩ := (HE0.out.kept HK.out).2 k (by omega)
            have HV : Hid (∃ u, u = es.getD k .nilIface) := ⟨_, rfl⟩
            obtain ⟨u, hve⟩ := HV.out
            rw [← hve] at c0 hv
            clear hve HV
            rcases hv with rfl | ⟨p, rfl⟩
            · go_wp2
              go_roundw
              case rel => exact ⟨k + 1, n, v, xs, by omega, by omega, by go_num, HK, HR, HC, HO⟩
              case measure => simp [intOf]; omega
            · obtain ⟨av, cv, rfl⟩ := own_slice HO.out
              have y0 := HC.out
              have hzw := HK.out.size
              have hJ := HJ.out
              have HJne : Hid (w0.heap.size ≤ J) := by show _ ≤ _; omega
              clear hJ
              go_wp2_with (at_builtin; refine wpList_append_lies _ rfl _ _ 149 rfl w0.heap.size 35 i0 .nilIface 1 16 Tryz.underlying149 hi hz0 hz1 hz2 rfl (by decide) _ _ _ rfl (HO.out.alloc _) ⟨wr.heap.size, 0, none⟩ 1 1 [.iface 211 (.pointer (some p))] rfl rfl ?c1 ?c2 (by decide) ?c3 ?c4 ?c5 _ rfl ?_)
              case c1 =>
                intro j u hj
                match j, hj with
                | 0, hj => simp at hj; subst hj; simp [Addr.add]
              case c2 => intro u hu; simp at hu; subst hu; rfl
              case c3 => unfold maxLen; omega
              case c4 => omega
              case c5 => simp; omega
              intro g cap' w2 hown' hgrow hloc hg2
              have kA : Kept wr (wr.alloc (.cells #[.iface 211 (.pointer (some p))] 35)) := (Kept.refl _).alloc _
              have hk2 : SameKind 35 (wr.alloc (.cells #[.iface 211 (.pointer (some p))] 35)) w2 := SameKind.of_grown (ownsRow_kept' HO.out kA) hgrow
              have HR2 : Hid (RowT w2 J 197 1) := by
                obtain ⟨cur, g1, g2⟩ := HR.out.kept kA
                exact ⟨cur, hk2 J cur _ _ (by decide) g1, g2⟩
              have HK2 : Hid (Kept w0 w2) := kept_of_grown (HK.out.trans kA) (Nat.le_refl _) (ownsRow_kept' HO.out kA) hgrow
              have HOw := hide hown'
              obtain ⟨⟨_, u0⟩, f0⟩ := HR2.out.row.at (i := 0) (by omega)
              clear hgrow hloc hg2 hown' hk2 kA HO HC HR HK
              go_wp2
              go_roundw
              case rel =>
                refine ⟨k + 1, n + 1, _, xs ++ [.iface 211 (.pointer (some p))], by omega, by omega, by go_num, ?_, HR2.out.set _, set_hit HR2.out.row (by omega) _, ?_⟩
                · exact Kept.setCell HK2.out HJne.out _
                · exact owns_kept HOw.out (HR2.out.same (o := 0) _) (by decide)
              case measure => simp [intOf]; omega
          · go_wp2
            go_ret
            exact ⟨.inr ⟨HA'.out, _, rfl⟩, HK.out⟩

end Go.Proofs.YtinkfgkjdaaeaaaGreatDoor

namespace Go.Proofs.YtinkfgkjdaaeaaaGreatDoor
open Go.RowKit

structure Rdr (w : World) (rb lb cap : Nat) (L : List (List UInt8)) (a : Nat) : Prop where
  row : RowT w rb 71 2
  c0 : w.cell? ⟨rb, 0, none⟩ = some (.slice (some ⟨lb, 0, none⟩) L.length cap)
  c1 : w.cell? ⟨rb, 1, none⟩ = some (.int .i64 (a : Int))
  lbl : lb < w.heap.size
  ne : lb ≠ rb
  lines : ∀ i, i < L.length → w.cell? ⟨lb, i, none⟩ = some (.string (toB (L.getD i [])))
  len : L.length ≤ 100001
  each : ∀ l ∈ L, l.length ≤ 100000
  a_le : a ≤ L.length + 1

theorem Rdr.kept {w w' : World} {rb lb cap : Nat} {L : List (List UInt8)} {a : Nat} (h : Rdr w rb lb cap L a) (k : Kept w w') : Rdr w' rb lb cap L a :=
  ⟨h.row.kept k, by rw [k.cell h.row.lt]; exact h.c0, by rw [k.cell h.row.lt]; exact h.c1, Nat.lt_of_lt_of_le h.lbl k.size, h.ne, fun i hi => by rw [k.cell h.lbl]; exact h.lines i hi, h.len, h.each, h.a_le⟩
theorem Rdr.set {w : World} {rb lb cap : Nat} {L : List (List UInt8)} {a a' : Nat} (h : Rdr w rb lb cap L a) (ha : a' ≤ L.length + 1) : Rdr (w.setCell ⟨rb, 1, none⟩ (.int .i64 (a' : Int))) rb lb cap L a' :=
  ⟨h.row.set _, by rw [set_miss (by omega)]; exact h.c0, set_hit h.row.row (by omega) _, by rw [size_setCell]; exact h.lbl, h.ne, fun i hi => by rw [World.cell?_setCell_other _ _ _ _ (fun e => h.ne (by simpa using (congrArg Addr.block e).symm))]; exact h.lines i hi, h.len, h.each, ha⟩
theorem Rdr.other {w w' : World} {rb lb cap : Nat} {L : List (List UInt8)} {a : Nat} (h : Rdr w rb lb cap L a) (hb : w'.heap[rb]? = w.heap[rb]?) (hl : w'.heap[lb]? = w.heap[lb]?) (hz : w.heap.size ≤ w'.heap.size) : Rdr w' rb lb cap L a :=
  ⟨h.row.block hb, by rw [World.cell?_of_block hb]; exact h.c0, by rw [World.cell?_of_block hb]; exact h.c1, Nat.lt_of_lt_of_le h.lbl hz, h.ne, fun i hi => by rw [World.cell?_of_block hl]; exact h.lines i hi, h.len, h.each, h.a_le⟩
theorem Rdr.line {w : World} {rb lb cap : Nat} {L : List (List UInt8)} {a : Nat} (h : Rdr w rb lb cap L a) (ha : a < L.length) : (L.getD a []).length ≤ 100000 := h.each _ (by simp [List.getD, ha])
theorem drop_line {L : List (List UInt8)} {a : Nat} (h : a < L.length) : L.drop a = L.getD a [] :: L.drop (a + 1) := by rw [List.drop_eq_getElem_cons h]; simp [List.getD, h]

def wordsAt (L : List (List UInt8)) (a : Nat) : List UInt8 × List UInt8 := if a < L.length then cut1 32 (L.getD a []) else ([], [])
theorem cut1_len (b : UInt8) (l : List UInt8) : (cut1 b l).1.length ≤ l.length ∧ (cut1 b l).2.length ≤ l.length := by
  rcases cut1_cases b l with ⟨_, g⟩ | ⟨x, r, _, g2, g3⟩
  · rw [g]; simp
  · rw [g3, g2]; simp; omega
theorem wordsAt_len {w : World} {rb lb cap : Nat} {L : List (List UInt8)} {a : Nat} (h : Rdr w rb lb cap L a) : (wordsAt L a).1.length ≤ 100000 ∧ (wordsAt L a).2.length ≤ 100000 := by
  unfold wordsAt
  split
  · next g =>
    have h1 := cut1_len 32 (L.getD a [])
    have h2 := h.line g
    omega
  · simp

set_option maxRecDepth 100000 in
set_option maxHeartbeats 1600000 in
theorem next_any (w : World) (rb lb cap : Nat) (L : List (List UInt8)) (a : Nat) (hR : Rdr w rb lb cap L a) (ha : a ≤ L.length) {po : Addr} (hE : Env po w) :
    Calls Tryz.prog 49 #[.pointer (some ⟨rb, 0, none⟩)] w fun e w' => e = .returned (.tuple #[.string (toB (wordsAt L a).1), .string (toB (wordsAt L a).2)]) ∧ Rdr w' rb lb cap L (a + 1) ∧ KeptBut rb (rb + 1) w w' := by
  have HE := hide hE
  have HR := hide hR
  have c0 := hR.c0
  have c1 := hR.c1
  have hlen := hR.len
  obtain ⟨_, f1⟩ := hR.row.row.at (i := 1) (by omega)
  have hmax : (L.length : Int) ≤ 100001 := by omega
  clear hR hE
  by_cases hlt : (a : Int) < (L.length : Int)
  · have hl : a < L.length := by omega
    have c2 := HR.out.lines a hl
    have hz := HR.out.line hl
    have hw : Hid (wordsAt L a = cut1 32 (L.getD a [])) := if_pos hl
    generalize L.getD a [] = line at *
    have hzb : (toB line).size = line.length := by simp [toB, ByteArray.size]
    go_enter Tryz.func49, Tryz.ntmps49
    go_wp2
    go_region
    go_wp2
    go_region_with (go_at_call 73; refine (cut_any _ (toB line) (by omega) 32 (HE.out.kept (by repeat (first | apply Kept.drew | exact Kept.refl _)))).mono ?_; rintro e w3 ⟨⟨f, rfl⟩, k3⟩; have K3 : Kept w w3 := Kept.trans (by repeat (first | apply Kept.drew | exact Kept.refl _)) k3)
    all_goals
      have HW : Hid (toB (cut1 32 line).1 = toB (wordsAt L a).1 ∧ toB (cut1 32 line).2 = toB (wordsAt L a).2) := by rw [hw.out]; exact ⟨rfl, rfl⟩
      rw [show (toB line).data.toList = line from rfl, HW.out.1, HW.out.2]
      have HR3 := hide (HR.out.kept K3)
      have y1 := HR3.out.c1
      obtain ⟨_, f3⟩ := HR3.out.row.row.at (i := 1) (by omega)
      clear c0 c1 c2 f1 k3
      go_wp2
      go_ret2
      exact ⟨rfl, HR3.out.set (a' := a + 1) (by omega), (KeptBut.of_kept K3).setCell (p := ⟨rb, 1, none⟩) (Nat.le_refl rb) (Nat.lt_succ_self rb) _⟩
  · have hw : Hid (wordsAt L a = ([], [])) := if_neg (by omega)
    go_enter Tryz.func49, Tryz.ntmps49
    go_wp2
    go_region
    go_wp2
    go_ret2
    refine ⟨by rw [hw.out]; rfl, (HR.out.kept (Kept.refl w).drew).set (a' := a + 1) (by omega), ((KeptBut.refl rb (rb + 1) w).setCell (p := ⟨rb, 1, none⟩) (Nat.le_refl rb) (Nat.lt_succ_self rb) _).drew⟩

def NotOther (w : World) (po : Addr) (v : Value) : Prop := (∃ p, v = .iface 211 (.pointer (some p)) ∧ p ≠ po ∧ PtrOk w p) ∨ ∃ p, v = .iface 195 (.pointer (some p))
def FaultAt (w : World) (b : Nat) (line : Int) (v : Value) : Prop := w.heap[b]? = some (.cells #[.int .i64 line, v] 69 (0, 0))
theorem FaultAt.kept {w w' : World} {b : Nat} {line : Int} {v : Value} (h : FaultAt w b line v) (k : Kept w w') : FaultAt w' b line v := (k.block b (heap_lt h)).trans h
theorem FaultAt.c0 {w : World} {b : Nat} {line : Int} {v : Value} (h : FaultAt w b line v) : w.cell? ⟨b, 0, none⟩ = some (.int .i64 line) := by rw [Lib.cell_of_heap h]; rfl
theorem FaultAt.c1 {w : World} {b : Nat} {line : Int} {v : Value} (h : FaultAt w b line v) : w.cell? ⟨b, 1, none⟩ = some v := by rw [Lib.cell_of_heap h]; rfl

theorem wrap_nil (w : World) (rb : Nat) : Calls Tryz.prog 50 #[.pointer (some ⟨rb, 0, none⟩), .nilIface] w fun e w' => e = .returned .nilIface ∧ w' = w := by
  go_enter Tryz.func50, Tryz.ntmps50
  go_wp2
  go_ret
  exact ⟨rfl, rfl⟩
theorem wrap_any (w : World) (rb lb cap : Nat) (L : List (List UInt8)) (a : Nat) (hR : Rdr w rb lb cap L (a + 1)) (t : TypeId) (p : Value) :
    Calls Tryz.prog 50 #[.pointer (some ⟨rb, 0, none⟩), .iface t p] w fun e w' => e = .returned (.iface 67 (.pointer (some ⟨w.heap.size, 0, none⟩))) ∧ FaultAt w' w.heap.size (a : Int) (.iface t p) ∧ Kept w w' := by
  have c1 := hR.c1
  have hl := hR.a_le
  have hl2 := hR.len
  have hsub : IntKind.i64.wrap (((a + 1 : Nat) : Int) - 1) = (a : Int) := by rw [IntKind.wrap_i64]; omega
  clear hR
  go_enter Tryz.func50, Tryz.ntmps50
  go_wp2
  go_ret
  exact ⟨rfl, heap_alloc_new w _, (Kept.refl w).alloc _⟩

end Go.Proofs.YtinkfgkjdaaeaaaGreatDoor

namespace Go.Proofs.YtinkfgkjdaaeaaaGreatDoor
open Go.RowKit

theorem bodyPost_ret_j2 {P : Program} {fn : Func} {R : Ending → World → Prop} {a : Act} {w : World} {p q : Tmp} {ty : TypeId} {b : Nat} (cs : List Value) (d : TypeDesc) (v : Value) (h : fn.results = #[.cell p ty, .tmp q])
    (hp : a.tmps.getD p undef = .pointer (some ⟨b, 0, none⟩)) (hr : w.rangeAt b 0 cs) (hu : P.underlying ty = some d) (hd : d.isRow = true) (hi : (P.info? ty).map (·.size) = some cs.length)
    (hq : a.tmps.getD q undef = v) (hdef : a.defers = []) (hR : R (.returned (.tuple #[.agg cs.toArray, v])) w) : bodyPost P fn R .ret a w := by
  refine bodyPost_ret ?_ hdef hR
  have hp' : a.tmps[p]?.getD undef = .pointer (some ⟨b, 0, none⟩) := by simpa using hp
  have hq' : a.tmps[q]?.getD undef = v := by simpa using hq
  simp only [results, h]
  simp [hp', hq', asAddr, run_loadVar_mid w b 0 ty cs d hr hu hd hi]

def ReadEnd {α : Type} (P : List (List UInt8) → Got α → Prop) (Mem : World → List Value → α → Prop) (Shape : List Value → Prop) (w0 : World) (po : Addr) (rb lb cap : Nat) (L : List (List UInt8)) (a : Nat) (w w' : World) (e : Ending) : Prop :=
  ∃ (cs : List Value) (err : Value) (a' : Nat), e = .returned (.tuple #[.agg cs.toArray, err]) ∧ Shape cs ∧ Rdr w' rb lb cap L a' ∧ KeptBut rb (rb + 1) w w' ∧
    ((∃ x, P (L.drop a) (.ok x (L.drop a')) ∧ a < a' ∧ a' ≤ L.length ∧ err = .nilIface ∧ Mem w' cs x)
    ∨ (∃ fb, P (L.drop a) .other ∧ err = .iface 67 (.pointer (some ⟨fb, 0, none⟩)) ∧ FaultAt w' fb (a : Int) (.iface 211 (.pointer (some po))) ∧ w.heap.size ≤ fb)
    ∨ (∃ fb line u, P (L.drop a) .bad ∧ err = .iface 67 (.pointer (some ⟨fb, 0, none⟩)) ∧ FaultAt w' fb line u ∧ NotOther w0 po u ∧ w.heap.size ≤ fb))

def CaseSh (cs : List Value) : Prop := ∃ c : CaseD, cs = c.cells ∧ c.text.size ≤ 100000 ∧ In64 c.goto
def CaseMem (_ : World) (cs : List Value) (c : CaseD) : Prop := cs = c.cells
theorem Tryz.sizeCaseJ : (Tryz.prog.info? 61).map (·.size) = some 2 := by kernel_rfl

theorem in64_zero : In64 0 := ⟨by decide, by decide⟩
theorem toB_beq (x l : List UInt8) : ((toB x).toList == l) = decide (x = l) := by
  rw [ByteArray.toList_eq]
  show (x == l) = _
  by_cases h : x = l
  · simp [h]
  · simp [h]
theorem wayR_other {L : List (List UInt8)} {a : Nat} (_ha : a ≤ L.length) (h : (wordsAt L a).1 ≠ wCase) : WayR (L.drop a) .other := by
  rcases Nat.lt_or_ge a L.length with hl | hl
  · rw [drop_line hl]
    unfold wordsAt at h
    rw [if_pos hl] at h
    simp only [WayR, gotWay]
    rw [if_neg h]
  · rw [List.drop_eq_nil_of_le hl]
    rfl
theorem wayR_word {L : List (List UInt8)} {a : Nat} (h : (wordsAt L a).1 = wCase) : a < L.length ∧ ∀ g, WayR (L.drop a) g ↔ g = match wayOf (wordsAt L a).2 with | some c => .ok c (L.drop (a + 1)) | none => .bad := by
  unfold wordsAt at h ⊢
  split at h
  · next hl =>
    refine ⟨hl, fun g => ?_⟩
    rw [drop_line hl, if_pos hl]
    simp only [WayR, gotWay]
    rw [if_pos h]
    exact Iff.rfl
  · exact absurd h (by decide)

theorem KeptBut.rowT {lo hi : Nat} {w w' : World} {b n : Nat} {t : TypeId} (k : KeptBut lo hi w w') (h : RowT w b t n) (hn : b < lo ∨ hi ≤ b) : RowT w' b t n := h.block (k.block b h.lt hn)
theorem KeptBut.cellJ {w w' : World} {lo hi : Nat} (h : KeptBut lo hi w w') {b o : Nat} (hb : b < w.heap.size) (hn : b < lo ∨ hi ≤ b) : w'.cell? ⟨b, o, none⟩ = w.cell? ⟨b, o, none⟩ := World.cell?_of_block (w := w) (h.block b hb hn)
theorem KeptBut.and {lo hi : Nat} {a b c : World} (h : KeptBut lo hi a b) (k : Kept b c) : KeptBut lo hi a c := h.trans (.of_kept k)
theorem KeptBut.env {po : Addr} {w0 w w' : World} {rb : Nat} (k : KeptBut rb (rb + 1) w w') (h0 : Env po w0) (k0 : Kept w0 w) (hrb : w0.heap.size ≤ rb) : Env po w' := h0.kept (k.kept k0 hrb)
theorem KeptBut.sameKindR {w w' : World} {rb n : Nat} {t : TypeId} (h : KeptBut rb (rb + 1) w w') (hR : RowT w rb t n) : SameKind t w w' := by
  intro b cur u fr hu hb
  by_cases e : b = rb
  · subst e
    obtain ⟨c', h1, _⟩ := hR
    rw [hb] at h1
    simp only [Option.some.injEq, Obj.cells.injEq] at h1
    exact absurd h1.2.1 hu
  · rw [h.block b (heap_lt hb) (by omega)]
    exact hb
theorem toB_size (l : List UInt8) : (toB l).size = l.length := by simp [toB, ByteArray.size]
theorem KeptBut.from {lo hi : Nat} {w a b : World} (k0 : Kept w a) (h : KeptBut lo hi a b) : KeptBut lo hi w b := (KeptBut.of_kept k0).trans h

theorem setCells_os (g : Nat) : ∀ (vs : List Value) (o : Nat) (w : World), (w.setCells g o vs).os = w.os
  | [], _, _ => rfl
  | v :: r, o, w => by rw [World.setCells, setCells_os g r (o + 1)]; rfl
theorem setCells_tape (g : Nat) : ∀ (vs : List Value) (o : Nat) (w : World), (w.setCells g o vs).tape = w.tape
  | [], _, _ => rfl
  | v :: r, o, w => by rw [World.setCells, setCells_tape g r (o + 1)]; rfl
theorem setCells_output (g : Nat) : ∀ (vs : List Value) (o : Nat) (w : World), (w.setCells g o vs).output = w.output
  | [], _, _ => rfl
  | v :: r, o, w => by rw [World.setCells, setCells_output g r (o + 1)]; rfl
theorem heap_setCells (g : Nat) : ∀ (vs : List Value) (o : Nat) (w : World) (k : Nat), k ≠ g → (w.setCells g o vs).heap[k]? = w.heap[k]?
  | [], _, _, _, _ => rfl
  | v :: r, o, w, k, h => by
    rw [World.setCells, heap_setCells g r (o + 1) _ k h]
    exact Below.heap_setCell _ _ _ _ (fun e => h e)
theorem fin_parts {w w2 : World} {rb lb cap : Nat} {L : List (List UInt8)} {a vb o : Nat} {cs : List Value} (hR : Rdr w2 rb lb cap L a) (kb : KeptBut rb (rb + 1) w w2) (hv : w.heap.size ≤ vb) (hrb : rb < w.heap.size) (hlb : lb < w.heap.size) : Rdr (w2.setCells vb o cs) rb lb cap L a ∧ KeptBut rb (rb + 1) w (w2.setCells vb o cs) := by
  refine ⟨hR.other (heap_setCells _ _ _ _ _ (by omega)) (heap_setCells _ _ _ _ _ (by omega)) (by rw [size_setCells]; exact Nat.le_refl _), ?_⟩
  refine ⟨?_, ?_, ?_, by rw [size_setCells]; exact kb.size, fun k hk ho => (heap_setCells _ _ _ _ _ (by omega)).trans (kb.block k hk ho)⟩
  · rw [setCells_os]; exact kb.os
  · rw [setCells_tape]; exact kb.tape
  · rw [setCells_output]; exact kb.output
theorem FaultAt.setVar {w : World} {fb vb o : Nat} {cs : List Value} {line : Int} {v : Value} (h : FaultAt w fb line v) (hn : fb ≠ vb) : FaultAt (w.setCells vb o cs) fb line v := (heap_setCells _ _ _ _ _ hn).trans h

set_option maxRecDepth 100000 in
set_option maxHeartbeats 3200000 in
theorem way_any (w0 w : World) (rb lb cap : Nat) (L : List (List UInt8)) (a : Nat) (hR : Rdr w rb lb cap L a) (ha : a ≤ L.length) {po : Addr} (h0 : Env po w0) (k0 : Kept w0 w) (hrb : w0.heap.size ≤ rb) :
    Calls Tryz.prog 101 #[.pointer (some ⟨rb, 0, none⟩)] w fun e w' => ReadEnd WayR CaseMem CaseSh w0 po rb lb cap L a w w' e := by
  have hrl := hR.row.lt
  have hlbl := hR.lbl
  obtain ⟨W0, hW0⟩ : ∃ W0, W0 = w.alloc (.cells #[.string ⟨#[]⟩, .int .i64 0] 61) := ⟨_, rfl⟩
  have kA : Hid (Kept w W0) := by rw [hW0]; exact (Kept.refl w).alloc _
  have HV0 : Hid (RowT W0 w.heap.size 61 2) := by rw [hW0]; exact RowT.made w _ _
  have HR0 := hide (hR.kept kA.out)
  have HE0 := hide (h0.kept (k0.trans kA.out))
  have H0 := hide h0
  have K0 := hide (k0.trans kA.out)
  clear hR h0 k0
  go_enter Tryz.func101, Tryz.ntmps101
  go_wp2_with fail
  rw [← hW0]
  clear hW0
  refine (next_any W0 rb lb cap L a HR0.out ha HE0.out).mono ?_
  rintro e w1 ⟨rfl, hR1, kb1⟩
  have hwl := wordsAt_len HR0.out
  have HR1 := hide hR1
  have HB1 := hide (KeptBut.from kA.out kb1)
  have HV1 := hide (kb1.rowT HV0.out (by omega))
  have HE1 := hide (kb1.env H0.out K0.out hrb)
  have hz1 := kb1.size
  have hz0 := kA.out.size
  have hvl := HV0.out.lt
  have HT := hide hz1
  clear hR1 kb1 HR0 HE0 HV0 hz1
  obtain ⟨⟨_, x0⟩, g0⟩ := HV1.out.row.at (i := 0) (by omega)
  obtain ⟨⟨_, x1⟩, g1⟩ := HV1.out.row.at (i := 1) (by omega)
  by_cases hw : (wordsAt L a).1 = wCase
  · obtain ⟨hal, hWR⟩ := wayR_word hw
    have HWR := hide hWR
    have e0 : ((toB (wordsAt L a).1).toList == [99, 97, 115, 101]) = true := by rw [toB_beq, hw]; rfl
    clear hWR hw
    generalize (wordsAt L a).1 = word at *
    generalize (wordsAt L a).2 = rest at *
    have hcl := cut1_len 32 rest
    clear x0 x1 g0 g1
    go_wp2_with fail
    refine (cut_any _ (toB rest) (by rw [toB_size]; omega) 32 HE1.out).mono ?_
    rintro e w2 ⟨⟨f, rfl⟩, k2⟩
    rw [show (toB rest).data.toList = rest from rfl]
    have HE2 := hide (HE1.out.kept k2)
    have HWd : Hid (wayOf rest = match decOf (cut1 32 rest).1, unqP (cut1 32 rest).2 with | some n, some t => some ⟨toB t, n⟩ | _, _ => none) := rfl
    generalize (cut1 32 rest).1 = num at *
    generalize (cut1 32 rest).2 = quo at *
    go_wp2_with fail
    refine (decimals_any _ (toB num) (by rw [toB_size]; omega) HE2.out).mono ?_
    rintro e w3 ⟨hd, k3⟩
    rw [show (toB num).data.toList = num from rfl] at hd
    have HE3 := hide (HE2.out.kept k3)
    rcases hd with ⟨v, hd, rfl, hv⟩ | ⟨p, hd, rfl, hp⟩
    · go_wp2_with fail
      refine (unquote_any _ (toB quo) (by rw [toB_size]; omega) HE3.out).mono ?_
      rintro e w4 ⟨hu, k4⟩
      rw [show (toB quo).data.toList = quo from rfl] at hu
      rcases hu with ⟨t, hu, rfl, htl⟩ | ⟨q, hu, rfl, hq⟩
      · have HV4 := hide (HV1.out.kept ((k2.trans k3).trans k4))
        have HR4 := hide (HR1.out.kept ((k2.trans k3).trans k4))
        have HB4 := hide (HB1.out.and ((k2.trans k3).trans k4))
        have HC : Hid (WayR (L.drop a) (.ok ⟨toB t, v⟩ (L.drop (a + 1)))) := by show WayR _ _; rw [HWR.out, HWd.out, hd, hu]
        clear hd hu HWR HWd k2 k3 k4 HV1 HR1 HB1 HE1 HE2 HE3
        have HEr : Hid (Errs (w4.alloc (.cells #[.nilIface, .nilIface] 35)) w4.heap.size [.nilIface, .nilIface]) := by
          refine ⟨by simp, fun i hi => ?_⟩
          match i, hi with
          | 0, _ => exact ⟨range_new w4 #[.nilIface, .nilIface] 35 0 _ rfl, .inl rfl⟩
          | 1, _ => exact ⟨range_new w4 #[.nilIface, .nilIface] 35 1 _ rfl, .inl rfl⟩
        go_wp2_with fail
        refine (join_any _ w4.heap.size 2 [.nilIface, .nilIface] HEr.out (by simp)).mono ?_
        rintro e w5 ⟨hj, k5⟩
        have k5' : Kept w4 w5 := ((Kept.refl w4).alloc _).trans k5
        have HV5 := hide (HV4.out.kept k5')
        have HR5 := hide (HR4.out.kept k5')
        have HB5 := hide (HB4.out.and k5')
        clear k5 k5' HV4 HR4 HB4 HEr
        rcases hj with ⟨_, rfl⟩ | ⟨hn, _⟩
        · go_wp2_with fail
          refine (wrap_nil _ rb).mono ?_
          rintro e w6 ⟨rfl, rfl⟩
          obtain ⟨⟨_, x0⟩, g0⟩ := HV5.out.row.at (i := 0) (by omega)
          obtain ⟨⟨_, x1⟩, g1⟩ := HV5.out.row.at (i := 1) (by omega)
          go_wp2
          have hRg := World.rangeAt_setCells_same w6 w.heap.size 0 (CaseD.mk (toB t) v).cells (HV5.out.row.there (o := 0) (m := 2) (Nat.le_refl _))
          obtain ⟨r1, r2⟩ := fin_parts (o := 0) (cs := (CaseD.mk (toB t) v).cells) HR5.out HB5.out (Nat.le_refl _) hrl hlbl
          exact bodyPost_ret_j2 (CaseD.mk (toB t) v).cells _ .nilIface Tryz.results101 rfl hRg Tryz.underlying61 rfl Tryz.sizeCaseJ rfl rfl
            ⟨_, _, a + 1, rfl, ⟨⟨toB t, v⟩, rfl, by rw [toB_size]; omega, hv⟩, r1, r2, .inl ⟨⟨toB t, v⟩, HC.out, by omega, by omega, rfl, rfl⟩⟩
        · exact absurd (fun x hx => by simpa using hx) hn
      · have HV4 := hide (HV1.out.kept ((k2.trans k3).trans k4))
        have HR4 := hide (HR1.out.kept ((k2.trans k3).trans k4))
        have HB4 := hide (HB1.out.and ((k2.trans k3).trans k4))
        have HC : Hid (WayR (L.drop a) .bad) := by show WayR _ _; rw [HWR.out, HWd.out, hd, hu]
        clear hd hu HWR HWd k2 k3 k4 HV1 HR1 HB1 HE1 HE2 HE3
        have HEr : Hid (Errs (w4.alloc (.cells #[.nilIface, .iface 211 (.pointer (some q))] 35)) w4.heap.size [.nilIface, .iface 211 (.pointer (some q))]) := by
          refine ⟨by simp, fun i hi => ?_⟩
          match i, hi with
          | 0, _ => exact ⟨range_new w4 #[.nilIface, .iface 211 (.pointer (some q))] 35 0 _ rfl, .inl rfl⟩
          | 1, _ => exact ⟨range_new w4 #[.nilIface, .iface 211 (.pointer (some q))] 35 1 _ rfl, .inr ⟨q, rfl⟩⟩
        go_wp2_with fail
        refine (join_any _ w4.heap.size 2 [.nilIface, .iface 211 (.pointer (some q))] HEr.out (by simp)).mono ?_
        rintro e w5 ⟨hj, k5⟩
        have k5' : Kept w4 w5 := ((Kept.refl w4).alloc _).trans k5
        have HV5 := hide (HV4.out.kept k5')
        have HR5 := hide (HR4.out.kept k5')
        have HB5 := hide (HB4.out.and k5')
        clear k5 k5' HV4 HR4 HB4 HEr
        rcases hj with ⟨hn, _⟩ | ⟨_, N, rfl⟩
        · have := hn (.iface 211 (.pointer (some q))) (by simp)
          cases this
        · go_wp2_with fail
          refine (wrap_any _ rb lb cap L a HR5.out _ _).mono ?_
          rintro e w6 ⟨rfl, hf, k6⟩
          have HF := hide hf
          have HV6 := hide (HV5.out.kept k6)
          have HR6 := hide (HR5.out.kept k6)
          have HB6 := hide (HB5.out.and k6)
          obtain ⟨⟨_, x0⟩, g0⟩ := HV6.out.row.at (i := 0) (by omega)
          obtain ⟨⟨_, x1⟩, g1⟩ := HV6.out.row.at (i := 1) (by omega)
          have hfn : w.heap.size ≠ w5.heap.size := fun e => by have := HV5.out.lt; omega
          have hfz : w.heap.size ≤ w5.heap.size := by have := HV5.out.lt; omega
          clear hf k6 HV5 HR5 HB5
          go_wp2
          have hRg := World.rangeAt_setCells_same w6 w.heap.size 0 (CaseD.mk (⟨#[]⟩) v).cells (HV6.out.row.there (o := 0) (m := 2) (Nat.le_refl _))
          obtain ⟨r1, r2⟩ := fin_parts (o := 0) (cs := (CaseD.mk (⟨#[]⟩) v).cells) HR6.out HB6.out (Nat.le_refl _) hrl hlbl
          have r3 := HF.out.setVar (vb := w.heap.size) (o := 0) (cs := (CaseD.mk (⟨#[]⟩) v).cells) (fun e => hfn e.symm)
          exact bodyPost_ret_j2 (CaseD.mk (⟨#[]⟩) v).cells _ (.iface 67 (.pointer (some ⟨w5.heap.size, 0, none⟩))) Tryz.results101 rfl hRg Tryz.underlying61 rfl Tryz.sizeCaseJ rfl rfl
            ⟨_, _, a + 1, rfl, ⟨⟨⟨#[]⟩, v⟩, rfl, Nat.zero_le _, hv⟩, r1, r2, .inr (.inr ⟨w5.heap.size, _, _, HC.out, rfl, r3, .inr ⟨_, rfl⟩, hfz⟩)⟩
    · go_wp2_with fail
      refine (unquote_any _ (toB quo) (by rw [toB_size]; omega) HE3.out).mono ?_
      rintro e w4 ⟨hu, k4⟩
      rw [show (toB quo).data.toList = quo from rfl] at hu
      rcases hu with ⟨t, hu, rfl, htl⟩ | ⟨q, hu, rfl, hq⟩
      · have HV4 := hide (HV1.out.kept ((k2.trans k3).trans k4))
        have HR4 := hide (HR1.out.kept ((k2.trans k3).trans k4))
        have HB4 := hide (HB1.out.and ((k2.trans k3).trans k4))
        have HC : Hid (WayR (L.drop a) .bad) := by show WayR _ _; rw [HWR.out, HWd.out, hd, hu]
        clear hd hu HWR HWd k2 k3 k4 HV1 HR1 HB1 HE1 HE2 HE3
        have HEr : Hid (Errs (w4.alloc (.cells #[.iface 211 (.pointer (some p)), .nilIface] 35)) w4.heap.size [.iface 211 (.pointer (some p)), .nilIface]) := by
          refine ⟨by simp, fun i hi => ?_⟩
          match i, hi with
          | 0, _ => exact ⟨range_new w4 #[.iface 211 (.pointer (some p)), .nilIface] 35 0 _ rfl, .inr ⟨p, rfl⟩⟩
          | 1, _ => exact ⟨range_new w4 #[.iface 211 (.pointer (some p)), .nilIface] 35 1 _ rfl, .inl rfl⟩
        go_wp2_with fail
        refine (join_any _ w4.heap.size 2 [.iface 211 (.pointer (some p)), .nilIface] HEr.out (by simp)).mono ?_
        rintro e w5 ⟨hj, k5⟩
        have k5' : Kept w4 w5 := ((Kept.refl w4).alloc _).trans k5
        have HV5 := hide (HV4.out.kept k5')
        have HR5 := hide (HR4.out.kept k5')
        have HB5 := hide (HB4.out.and k5')
        clear k5 k5' HV4 HR4 HB4 HEr
        rcases hj with ⟨hn, _⟩ | ⟨_, N, rfl⟩
        · have := hn (.iface 211 (.pointer (some p))) (by simp)
          cases this
        · go_wp2_with fail
          refine (wrap_any _ rb lb cap L a HR5.out _ _).mono ?_
          rintro e w6 ⟨rfl, hf, k6⟩
          have HF := hide hf
          have HV6 := hide (HV5.out.kept k6)
          have HR6 := hide (HR5.out.kept k6)
          have HB6 := hide (HB5.out.and k6)
          obtain ⟨⟨_, x0⟩, g0⟩ := HV6.out.row.at (i := 0) (by omega)
          obtain ⟨⟨_, x1⟩, g1⟩ := HV6.out.row.at (i := 1) (by omega)
          have hfn : w.heap.size ≠ w5.heap.size := fun e => by have := HV5.out.lt; omega
          have hfz : w.heap.size ≤ w5.heap.size := by have := HV5.out.lt; omega
          clear hf k6 HV5 HR5 HB5
          go_wp2
          have hRg := World.rangeAt_setCells_same w6 w.heap.size 0 (CaseD.mk (toB t) 0).cells (HV6.out.row.there (o := 0) (m := 2) (Nat.le_refl _))
          obtain ⟨r1, r2⟩ := fin_parts (o := 0) (cs := (CaseD.mk (toB t) 0).cells) HR6.out HB6.out (Nat.le_refl _) hrl hlbl
          have r3 := HF.out.setVar (vb := w.heap.size) (o := 0) (cs := (CaseD.mk (toB t) 0).cells) (fun e => hfn e.symm)
          exact bodyPost_ret_j2 (CaseD.mk (toB t) 0).cells _ (.iface 67 (.pointer (some ⟨w5.heap.size, 0, none⟩))) Tryz.results101 rfl hRg Tryz.underlying61 rfl Tryz.sizeCaseJ rfl rfl
            ⟨_, _, a + 1, rfl, ⟨⟨toB t, 0⟩, rfl, by rw [toB_size]; omega, in64_zero⟩, r1, r2, .inr (.inr ⟨w5.heap.size, _, _, HC.out, rfl, r3, .inr ⟨_, rfl⟩, hfz⟩)⟩
      · have HV4 := hide (HV1.out.kept ((k2.trans k3).trans k4))
        have HR4 := hide (HR1.out.kept ((k2.trans k3).trans k4))
        have HB4 := hide (HB1.out.and ((k2.trans k3).trans k4))
        have HC : Hid (WayR (L.drop a) .bad) := by show WayR _ _; rw [HWR.out, HWd.out, hd, hu]
        clear hd hu HWR HWd k2 k3 k4 HV1 HR1 HB1 HE1 HE2 HE3
        have HEr : Hid (Errs (w4.alloc (.cells #[.iface 211 (.pointer (some p)), .iface 211 (.pointer (some q))] 35)) w4.heap.size [.iface 211 (.pointer (some p)), .iface 211 (.pointer (some q))]) := by
          refine ⟨by simp, fun i hi => ?_⟩
          match i, hi with
          | 0, _ => exact ⟨range_new w4 #[.iface 211 (.pointer (some p)), .iface 211 (.pointer (some q))] 35 0 _ rfl, .inr ⟨p, rfl⟩⟩
          | 1, _ => exact ⟨range_new w4 #[.iface 211 (.pointer (some p)), .iface 211 (.pointer (some q))] 35 1 _ rfl, .inr ⟨q, rfl⟩⟩
        go_wp2_with fail
        refine (join_any _ w4.heap.size 2 [.iface 211 (.pointer (some p)), .iface 211 (.pointer (some q))] HEr.out (by simp)).mono ?_
        rintro e w5 ⟨hj, k5⟩
        have k5' : Kept w4 w5 := ((Kept.refl w4).alloc _).trans k5
        have HV5 := hide (HV4.out.kept k5')
        have HR5 := hide (HR4.out.kept k5')
        have HB5 := hide (HB4.out.and k5')
        clear k5 k5' HV4 HR4 HB4 HEr
        rcases hj with ⟨hn, _⟩ | ⟨_, N, rfl⟩
        · have := hn (.iface 211 (.pointer (some p))) (by simp)
          cases this
        · go_wp2_with fail
          refine (wrap_any _ rb lb cap L a HR5.out _ _).mono ?_
          rintro e w6 ⟨rfl, hf, k6⟩
          have HF := hide hf
          have HV6 := hide (HV5.out.kept k6)
          have HR6 := hide (HR5.out.kept k6)
          have HB6 := hide (HB5.out.and k6)
          obtain ⟨⟨_, x0⟩, g0⟩ := HV6.out.row.at (i := 0) (by omega)
          obtain ⟨⟨_, x1⟩, g1⟩ := HV6.out.row.at (i := 1) (by omega)
          have hfn : w.heap.size ≠ w5.heap.size := fun e => by have := HV5.out.lt; omega
          have hfz : w.heap.size ≤ w5.heap.size := by have := HV5.out.lt; omega
          clear hf k6 HV5 HR5 HB5
          go_wp2
          have hRg := World.rangeAt_setCells_same w6 w.heap.size 0 (CaseD.mk (⟨#[]⟩) 0).cells (HV6.out.row.there (o := 0) (m := 2) (Nat.le_refl _))
          obtain ⟨r1, r2⟩ := fin_parts (o := 0) (cs := (CaseD.mk (⟨#[]⟩) 0).cells) HR6.out HB6.out (Nat.le_refl _) hrl hlbl
          have r3 := HF.out.setVar (vb := w.heap.size) (o := 0) (cs := (CaseD.mk (⟨#[]⟩) 0).cells) (fun e => hfn e.symm)
          exact bodyPost_ret_j2 (CaseD.mk (⟨#[]⟩) 0).cells _ (.iface 67 (.pointer (some ⟨w5.heap.size, 0, none⟩))) Tryz.results101 rfl hRg Tryz.underlying61 rfl Tryz.sizeCaseJ rfl rfl
            ⟨_, _, a + 1, rfl, ⟨⟨⟨#[]⟩, 0⟩, rfl, Nat.zero_le _, in64_zero⟩, r1, r2, .inr (.inr ⟨w5.heap.size, _, _, HC.out, rfl, r3, .inr ⟨_, rfl⟩, hfz⟩)⟩
  · have e0 : ((toB (wordsAt L a).1).toList == [99, 97, 115, 101]) = false := by rw [toB_beq]; exact decide_eq_false hw
    have HO := hide (wayR_other ha hw)
    have hoth := HE1.out.oth.2.1
    clear hw
    generalize (wordsAt L a).1 = word at *
    generalize (wordsAt L a).2 = rest at *
    clear x0 x1 g0 g1
    go_wp2_with fail
    refine (wrap_any _ rb lb cap L a HR1.out _ _).mono ?_
    rintro e w2 ⟨rfl, hf, k2⟩
    have HF := hide hf
    have HV2 := hide (HV1.out.kept k2)
    have HR2 := hide (HR1.out.kept k2)
    have HB2 := hide (HB1.out.and k2)
    obtain ⟨⟨_, x0⟩, g0⟩ := HV2.out.row.at (i := 0) (by omega)
    obtain ⟨⟨_, x1⟩, g1⟩ := HV2.out.row.at (i := 1) (by omega)
    have hfn : w.heap.size ≠ w1.heap.size := fun e => by have := HV1.out.lt; omega
    have hfz : w.heap.size ≤ w1.heap.size := by have := HV1.out.lt; omega
    clear hf k2 HV1 HR1 HB1
    go_wp2
    have hRg := World.rangeAt_setCells_same w2 w.heap.size 0 CaseD.zero.cells (HV2.out.row.there (o := 0) (m := 2) (Nat.le_refl _))
    obtain ⟨r1, r2⟩ := fin_parts (o := 0) (cs := CaseD.zero.cells) HR2.out HB2.out (Nat.le_refl _) hrl hlbl
    have r3 := HF.out.setVar (vb := w.heap.size) (o := 0) (cs := CaseD.zero.cells) (fun e => hfn e.symm)
    exact bodyPost_ret_j2 CaseD.zero.cells _ (.iface 67 (.pointer (some ⟨w1.heap.size, 0, none⟩))) Tryz.results101 rfl hRg Tryz.underlying61 rfl Tryz.sizeCaseJ rfl rfl
      ⟨_, _, a + 1, rfl, ⟨CaseD.zero, rfl, Nat.zero_le _, in64_zero⟩, r1, r2, .inr (.inl ⟨w1.heap.size, HO.out, rfl, r3, hfz⟩)⟩

def PackC (_ : World) (cells : List Value) (l : List CaseD) : Prop := cells = l.flatMap CaseD.cells
theorem PackC.nil (w : World) : PackC w [] [] := rfl
theorem PackC.snoc {w : World} {cells : List Value} {l : List CaseD} {cs : List Value} {c : CaseD} (h : PackC w cells l) (hc : CaseMem w cs c) : PackC w (cells ++ cs) (l ++ [c]) := by
  unfold PackC CaseMem at *
  rw [h, hc]
  simp
theorem PackC.same {w w' : World} {cells : List Value} {l : List CaseD} (h : PackC w cells l) {u : TypeId} (_ : SameKind u w w') : PackC w' cells l := h
theorem CaseMem.same {w w' : World} {cs : List Value} {c : CaseD} (h : CaseMem w cs c) {u : TypeId} (_ : SameKind u w w') : CaseMem w' cs c := h

end Go.Proofs.YtinkfgkjdaaeaaaGreatDoor

namespace Go.Proofs.YtinkfgkjdaaeaaaGreatDoor
open Go.RowKit

def StepSh (cs : List Value) : Prop := ∃ (s : StepD) (aa : Option Addr) (ca : Nat) (ac : Option Addr) (cc : Nat), cs = s.cells aa ca ac cc
def StepMem (w : World) (cs : List Value) (s : StepD) : Prop := TStep w 9 61 cs s
theorem Tryz.sizeStepJ : (Tryz.prog.info? 59).map (·.size) = some 8 := by kernel_rfl

def AskOEnd (w0 : World) (po : Addr) (l : List UInt8) (w w' : World) (e : Ending) : Prop :=
  Kept w w' ∧ ((∃ s aa ca, askOf l = some s ∧ e = .returned (.tuple #[.agg (s.cells aa ca none 0).toArray, .nilIface]) ∧ TStrs w' 9 aa s.asks ∧ s.asks.length ≤ ca)
    ∨ (∃ s aa ca t p, askOf l = none ∧ e = .returned (.tuple #[.agg (StepD.cells s aa ca none 0).toArray, .iface t p]) ∧ s.cases = [] ∧ NotOther w0 po (.iface t p)))

def NumRead (_po : Addr) (l : List UInt8) (v : Int) (err : Value) : Prop := In64 v ∧ ((decOf l = some v ∧ err = .nilIface) ∨ (decOf l = none ∧ ∃ p, err = .iface 211 (.pointer (some p))))
theorem decimals_num (w : World) (l : List UInt8) (hl : l.length ≤ 100000) {po : Addr} (hE : Env po w) :
    Calls Tryz.prog 74 #[.string (toB l)] w fun e w' => (∃ v err, e = .returned (.tuple #[.int .i64 v, err]) ∧ NumRead po l v err) ∧ Kept w w' := by
  refine (decimals_any w (toB l) (by rw [toB_size]; omega) hE).mono ?_
  rintro e w' ⟨hd, k⟩
  refine ⟨?_, k⟩
  rcases hd with ⟨v, hd, rfl, hv⟩ | ⟨p, hd, rfl, _⟩
  · exact ⟨v, .nilIface, rfl, hv, .inl ⟨hd, rfl⟩⟩
  · exact ⟨0, _, rfl, in64_zero, .inr ⟨hd, p, rfl⟩⟩
theorem NumRead.err {po : Addr} {l : List UInt8} {v : Int} {err : Value} (h : NumRead po l v err) : IsErr err := by
  rcases h.2 with ⟨_, h⟩ | ⟨_, p, h⟩
  · exact .inl h
  · exact .inr ⟨p, h⟩
theorem NumRead.yes {po : Addr} {l : List UInt8} {v : Int} {err : Value} (h : NumRead po l v err) (hn : err = .nilIface) : decOf l = some v := by
  rcases h.2 with ⟨h, _⟩ | ⟨_, p, h⟩
  · exact h
  · rw [hn] at h; cases h
theorem NumRead.no {po : Addr} {l : List UInt8} {v : Int} {err : Value} (h : NumRead po l v err) (hn : err ≠ .nilIface) : decOf l = none := by
  rcases h.2 with ⟨_, h⟩ | ⟨h, _⟩
  · exact absurd h hn
  · exact h
theorem cuts_len (b : UInt8) : ∀ (l : List UInt8), ∀ x ∈ cuts b l, x.length ≤ l.length
  | [], x, hx => by simp [cuts] at hx; simp [hx]
  | c :: r, x, hx => by
    have ih := cuts_len b r
    unfold cuts at hx
    split at hx
    · simp only [List.mem_cons] at hx
      rcases hx with rfl | hx
      · simp
      · have := ih x hx; simp; omega
    · match e : cuts b r, cuts_ne b r with
      | y :: t, _ =>
        rw [e] at hx ih
        simp only [List.headD_cons, List.tail_cons, List.mem_cons] at hx
        rcases hx with rfl | hx
        · have := ih y (by simp); simp; omega
        · have := ih x (by simp [hx]); simp; omega
theorem cuts_count (b : UInt8) : ∀ (l : List UInt8), (cuts b l).length ≤ l.length + 1
  | [] => by simp [cuts]
  | c :: r => by
    have ih := cuts_count b r
    have hn : (cuts b r).length ≠ 0 := by simpa using cuts_ne b r
    unfold cuts
    split
    · simp; omega
    · simp; omega
theorem row_strs (w : World) (X : List (List UInt8)) (i : Nat) (hi : i < X.length) : (w.alloc (.cells ((X.map toB).map Value.string).toArray 9)).cell? ⟨w.heap.size, i, none⟩ = some (.string (toB (X.getD i []))) := by
  have := range_new w ((X.map toB).map Value.string).toArray 9 i (.string (toB (X.getD i []))) (by simp [List.getD, hi])
  rw [Nat.zero_add] at this
  exact this
theorem tstrs_new (w : World) (X : List (List UInt8)) : TStrs (w.alloc (.cells ((X.map toB).map Value.string).toArray 9)) 9 (some ⟨w.heap.size, 0, none⟩) (X.map toB) := by
  refine .inr ⟨w.heap.size, _, _, rfl, heap_alloc_new w _, fun i hi => ?_⟩
  rw [List.length_map] at hi
  rw [row_strs w X i hi]
  simp [List.getD, hi]
theorem TStrs.kept {w w' : World} {t : TypeId} {a : Option Addr} {l : List ByteArray} (h : TStrs w t a l) (k : Kept w w') : TStrs w' t a l := by
  rcases h with h | ⟨b, cur, fr, ha, hb, hc⟩
  · exact .inl h
  · have hb' := (k.block b (heap_lt hb)).trans hb
    exact .inr ⟨b, cur, fr, ha, hb', fun i hi => by rw [World.cell?_of_block (w := w) (hb'.trans hb.symm)]; exact hc i hi⟩

theorem seven (l : List (List UInt8)) (h : l.length = 7) : ∃ x0 x1 x2 x3 x4 x5 x6 : List UInt8, l = [x0, x1, x2, x3, x4, x5, x6] := by
  match l, h with
  | [x0, x1, x2, x3, x4, x5, x6], _ => exact ⟨x0, x1, x2, x3, x4, x5, x6, rfl⟩
theorem RowT.sets {b n : Nat} {t : TypeId} : ∀ (o : Nat) (vs : List Value) {w : World}, RowT w b t n → SameKind t w (w.setCells b o vs)
  | _, [], _, _ => SameKind.refl _ _
  | o, v :: r, w, h => by
    rw [World.setCells]
    exact (h.same (o := o) v).trans (RowT.sets (o + 1) r (h.set v))

end Go.Proofs.YtinkfgkjdaaeaaaGreatDoor
