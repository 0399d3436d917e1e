import Derived.Test.YtghipdfemoofhaaGreatDoorKVBench
import Derived.Test.YtghipdfemoofhaaGreatDoorKVList
import Derived.Test.YtghipdfemoofhaaGreatDoorKDBase
import Derived.Test.YtghipdfemoofhaaGreatDoorProg

namespace Go.Proofs.YtghipdfemoofhaaGreatDoor

section
variable {W : Acts}

def againN (W : Acts) (σ : Env) (n : ByteArray) : Nat → RunX × List ByteArray
  | 0 => (RunX.fresh n, [])
  | k + 1 => ((nextOf W σ (againN W σ n k).1).1, (againN W σ n k).2 ++ (nextOf W σ (againN W σ n k).1).2)
def Traj (W : Acts) (σ : Env) (r : RunX) (L : List ByteArray) : Prop := ∃ k, againN W σ r.name k = (r, L) ∧ ∀ j, j < k → CanGo W σ (againN W σ r.name j).1

theorem againN_name {σ : Env} {n : ByteArray} : ∀ k, (againN W σ n k).1.name = n
  | 0 => rfl
  | k + 1 => by unfold againN; rw [nextOf_name]; exact againN_name k
theorem Traj.start {σ : Env} (n : ByteArray) : Traj W σ (RunX.fresh n) [] := ⟨0, rfl, fun _ h => absurd h (Nat.not_lt_zero _)⟩
theorem Traj.unit {σ : Env} {r : RunX} {L : List ByteArray} (h : Traj W σ r L) (hc : CanGo W σ r) : Traj W σ (nextOf W σ r).1 (L ++ (nextOf W σ r).2) := by
  obtain ⟨k, h1, h2⟩ := h
  refine ⟨k + 1, ?_, fun j hj => ?_⟩
  · rw [nextOf_name]
    unfold againN
    rw [h1]
  · rw [nextOf_name]
    rcases Nat.lt_or_ge j k with g | g
    · exact h2 j g
    · have : j = k := by omega
      subst this
      rw [h1]
      exact hc
theorem againN_mono {σ : Env} {n m : ByteArray} (hr : ReadyX W σ m) : ∀ {k : Nat}, (∀ j, j < k → CanGo W σ (againN W σ n j).1) → againN W (doX W σ m) n k = againN W σ n k
  | 0, _ => rfl
  | k + 1, h => by
    have ih := againN_mono (k := k) hr (fun j hj => h j (by omega))
    have := nextOf_mono hr (h k (by omega))
    unfold againN
    rw [ih, this]
theorem Traj.mono {σ : Env} {m : ByteArray} {r : RunX} {L : List ByteArray} (h : Traj W σ r L) (hr : ReadyX W σ m) : Traj W (doX W σ m) r L := by
  obtain ⟨k, h1, h2⟩ := h
  refine ⟨k, by rw [againN_mono hr h2]; exact h1, fun j hj => ?_⟩
  rw [againN_mono hr (fun i hi => h2 i (by omega))]
  exact (h2 j hj).mono hr
theorem againN_visits {σ : Env} {n : ByteArray} (hw : (W n).isSome = true) : ∀ {k : Nat}, (∀ j, j < k → CanGo W σ (againN W σ n j).1) → (againN W σ n k).1.over = false → (againN W σ n k).1.visits = k
  | 0, _, _ => rfl
  | k + 1, h, ho => by
    have hk := h k (by omega)
    have ih := againN_visits hw (k := k) (fun j hj => h j (by omega)) hk.1
    rcases nextOf_visits hk (by rw [againN_name]; exact hw) with g | ⟨_, _, g⟩
    · show (nextOf W σ (againN W σ n k).1).1.visits = _
      rw [g, ih]
      omega
    · exact absurd (g.symm.trans ho) (by simp)
theorem Traj.last {σ : Env} {r : RunX} {L : List ByteArray} (h : Traj W σ r L) (ho : r.over = true) {k : Nat} (h1 : ∀ j, j < k → CanGo W σ (againN W σ r.name j).1) (h2 : ¬ CanGo W σ (againN W σ r.name k).1) : againN W σ r.name k = (r, L) := by
  obtain ⟨m, g1, g2⟩ := h
  rcases Nat.lt_trichotomy k m with g | g | g
  · exact absurd (g2 k g) h2
  · subst g; exact g1
  · have := (h1 m g).1
    rw [g1] at this
    exact absurd (ho.symm.trans this) (by simp)
theorem Traj.here {σ : Env} {r : RunX} {L : List ByteArray} (hw : (W r.name).isSome = true) (h : Traj W σ r L) (ho : r.over = false) : ∃ k : Nat, r.visits = k ∧ againN W σ r.name k = (r, L) ∧ ∀ j, j < k → CanGo W σ (againN W σ r.name j).1 := by
  obtain ⟨k, h1, h2⟩ := h
  refine ⟨k, ?_, h1, h2⟩
  have := againN_visits hw h2 (by rw [h1]; exact ho)
  rw [h1] at this
  exact this
theorem Traj.zero {σ : Env} {r : RunX} {L : List ByteArray} (hw : (W r.name).isSome = true) (h : Traj W σ r L) (hv : r.visits = 0) (ho : r.over = false) : L = [] := by
  obtain ⟨k, h1, h2, _⟩ := h.here hw ho
  have : k = 0 := by omega
  subst this
  simp [againN] at h2
  exact h2.2
end

end Go.Proofs.YtghipdfemoofhaaGreatDoor

namespace Go.Proofs.YtghipdfemoofhaaGreatDoor
open Go.RowKit

structure KnownX (w : World) (kb : Nat) (a : Option Addr) (n cap : Nat) (d : Option Addr) (m dc : Nat) : Prop where
  row : RowT w kb 145 2
  web : w.cell? ⟨kb, 0, none⟩ = some (.slice a n cap)
  runs : w.cell? ⟨kb, 1, none⟩ = some (.slice d m dc)
theorem KnownX.kept {w w' : World} {kb n cap m dc : Nat} {a d : Option Addr} (h : KnownX w kb a n cap d m dc) (k : Kept w w') : KnownX w' kb a n cap d m dc :=
  ⟨h.row.kept k, (k.cell h.row.lt).trans h.web, (k.cell h.row.lt).trans h.runs⟩

set_option maxRecDepth 100000 in
set_option maxHeartbeats 800000 in
theorem l2At_place (w : World) (a : Option Addr) (cap : Nat) (l : List NodeD) (key : ByteArray) (hl : l.length ≤ 1048576) (hS : Nodes w a l) :
    Calls Tryz.prog 67 #[.agg #[.slice a l.length cap], .string key] w fun e w' => (∃ r, e = .returned (.int .i64 r) ∧ PlaceN l key r) ∧ Kept w w' := by
  have k0 : Kept w (w.alloc (.cells #[.slice a l.length cap] 34)) := (Kept.refl _).alloc _
  go_enter Tryz.func67, Tryz.ntmps67
  go_wp2
  go_loop [5] (fun i => ∃ k : Nat, k ≤ l.length ∧ i = .int .i64 k ∧ Hid (∀ j, j < k → (l.getD j NodeD.zero).name ≠ key)) (fun i => l.length - (intOf i).toNat)
  case atStart => exact ⟨0, Nat.zero_le _, rfl, hide fun j hj => absurd hj (Nat.not_lt_zero _)⟩
  case round =>
    obtain ⟨k, hk, rfl, HG⟩ := hrel
    by_cases hlt : k < l.length
    · obtain ⟨b, o, cs, rfl, hb, hc, aa, ca, rfl, hA⟩ := (hS.kept k0) k hlt
      obtain ⟨d, hd⟩ : ∃ d, d = l.getD k NodeD.zero := ⟨_, rfl⟩
      rw [← hd] at hc
      have c0 := hc 0 _ rfl
      rw [Nat.add_zero] at c0
      have HD := hide hd
      clear hc hd hA
      cases hne : (d.name.toList == key.toList)
      · go_wp2
        go_round
        case rel =>
          refine ⟨k + 1, by omega, by go_num, hide fun j hj => ?_⟩
          by_cases e : j = k
          · rw [e, ← HD.out]; exact beq_no hne
          · exact HG.out j (by omega)
        case measure => simp [intOf]; omega
      · go_wp2
        go_ret
        exact ⟨⟨k, rfl, .inl ⟨k, hlt, rfl, acts_at hlt (by rw [← HD.out]; exact beq_yes hne) HG.out, (by rw [← HD.out]; exact beq_yes hne), HG.out⟩⟩, k0⟩
    · go_wp2
      go_ret
      exact ⟨⟨-1, rfl, .inr ⟨rfl, acts_none fun j hj => HG.out j (by omega)⟩⟩, k0⟩

set_option maxRecDepth 100000 in
set_option maxHeartbeats 800000 in
theorem findX (w : World) (kb : Nat) (a : Option Addr) (n cap : Nat) (d : Option Addr) (dc : Nat) (l : List RunX) (key : ByteArray) (hl : l.length ≤ 1048576) (hK : KnownX w kb a n cap d l.length dc) (hS : RunsX w d l) :
    Calls Tryz.prog 128 #[.pointer (some ⟨kb, 0, none⟩), .string key] w fun e w' => (∃ r, e = .returned (.int .i64 r) ∧ PlaceX l key r) ∧ w' = w := by
  have c1 := hK.runs
  have hb := hK.row.lt
  go_enter Tryz.func128, Tryz.ntmps128
  go_wp2
  go_loop [5] (fun i => ∃ k : Nat, k ≤ l.length ∧ i = .int .i64 k ∧ Hid (∀ j, j < k → (l.getD j RunX.zero).name ≠ key)) (fun i => l.length - (intOf i).toNat)
  case atStart => exact ⟨0, Nat.zero_le _, rfl, hide fun j hj => absurd hj (Nat.not_lt_zero _)⟩
  case round =>
    obtain ⟨k, hk, rfl, HG⟩ := hrel
    by_cases hlt : k < l.length
    · obtain ⟨b, o, xa, xc, rfl, hb', hc, _, _⟩ := hS k hlt
      obtain ⟨y, hy⟩ : ∃ y, y = l.getD k RunX.zero := ⟨_, rfl⟩
      rw [← hy] at hc
      have c0 := hc 0 _ rfl
      rw [Nat.add_zero] at c0
      have HD := hide hy
      clear hc hy
      cases hne : (y.name.toList == key.toList)
      · go_wp2
        go_round
        case rel =>
          refine ⟨k + 1, by omega, by go_num, hide fun j hj => ?_⟩
          by_cases e : j = k
          · rw [e, ← HD.out]; exact beq_no hne
          · exact HG.out j (by omega)
        case measure => simp [intOf]; omega
      · go_wp2
        go_ret
        exact ⟨⟨k, rfl, .inl ⟨k, hlt, rfl, env_at hlt (by rw [← HD.out]; exact beq_yes hne) HG.out, by rw [← HD.out]; exact beq_yes hne⟩⟩, rfl⟩
    · go_wp2
      go_ret
      exact ⟨⟨-1, rfl, .inr ⟨rfl, env_none fun j hj => HG.out j (by omega)⟩⟩, rfl⟩

set_option maxRecDepth 100000 in
set_option maxHeartbeats 800000 in
theorem l4At_place (w : World) (ra : Option Addr) (rn rc : Nat) (d : Option Addr) (dc : Nat) (l : List RunX) (key : ByteArray) (hl : l.length ≤ 1048576) (hS : RunsX w d l) :
    Calls Tryz.prog 63 #[.agg #[.slice ra rn rc, .slice d l.length dc], .string key] w fun e w' => (∃ r, e = .returned (.int .i64 r) ∧ PlaceX l key r) ∧ Kept w w' := by
  have k0 : Kept w (w.alloc (.cells #[.slice ra rn rc, .slice d l.length dc] 38)) := (Kept.refl _).alloc _
  go_enter Tryz.func63, Tryz.ntmps63
  go_wp2
  go_loop [5] (fun i => ∃ k : Nat, k ≤ l.length ∧ i = .int .i64 k ∧ Hid (∀ j, j < k → (l.getD j RunX.zero).name ≠ key)) (fun i => l.length - (intOf i).toNat)
  case atStart => exact ⟨0, Nat.zero_le _, rfl, hide fun j hj => absurd hj (Nat.not_lt_zero _)⟩
  case round =>
    obtain ⟨k, hk, rfl, HG⟩ := hrel
    by_cases hlt : k < l.length
    · obtain ⟨b, o, xa, xc, rfl, hb', hc, _, _⟩ := (hS.kept k0) k hlt
      obtain ⟨y, hy⟩ : ∃ y, y = l.getD k RunX.zero := ⟨_, rfl⟩
      rw [← hy] at hc
      have c0 := hc 0 _ rfl
      rw [Nat.add_zero] at c0
      have HD := hide hy
      clear hc hy
      cases hne : (y.name.toList == key.toList)
      · go_wp2
        go_round
        case rel =>
          refine ⟨k + 1, by omega, by go_num, hide fun j hj => ?_⟩
          by_cases e : j = k
          · rw [e, ← HD.out]; exact beq_no hne
          · exact HG.out j (by omega)
        case measure => simp [intOf]; omega
      · go_wp2
        go_ret
        exact ⟨⟨k, rfl, .inl ⟨k, hlt, rfl, env_at hlt (by rw [← HD.out]; exact beq_yes hne) HG.out, by rw [← HD.out]; exact beq_yes hne⟩⟩, k0⟩
    · go_wp2
      go_ret
      exact ⟨⟨-1, rfl, .inr ⟨rfl, env_none fun j hj => HG.out j (by omega)⟩⟩, k0⟩

end Go.Proofs.YtghipdfemoofhaaGreatDoor

namespace Go.Proofs.YtghipdfemoofhaaGreatDoor

def putA (r : RunX) (p : List RunX × Bool) (x : RunX) : List RunX × Bool := if p.2 = false ∧ Op.bytesLess x.name.toList r.name.toList = false then (p.1 ++ [r], true) else p
def putB (r : RunX) (p : List RunX × Bool) (x : RunX) : List RunX × Bool := if (x.name.toList == r.name.toList) = true then p else (p.1 ++ [x], p.2)
def putR (r : RunX) (p : List RunX × Bool) (x : RunX) : List RunX × Bool := putB r (putA r p x) x
def putK (l : List RunX) (r : RunX) (k : Nat) : List RunX × Bool := (l.take k).foldl (putR r) ([], false)
theorem putK_zero (l : List RunX) (r : RunX) : putK l r 0 = ([], false) := rfl
theorem putK_succ {l : List RunX} {r : RunX} {k : Nat} (h : k < l.length) : putK l r (k + 1) = putR r (putK l r k) (l.getD k RunX.zero) := by
  unfold putK
  rw [List.take_succ_eq_append_getElem h, List.foldl_append]
  simp [List.getD, h]
theorem putR_len (r : RunX) (p : List RunX × Bool) (x : RunX) : (putR r p x).1.length + (if (putR r p x).2 = true then 0 else 1) ≤ p.1.length + (if p.2 = true then 0 else 1) + 1 := by
  unfold putR putB putA
  obtain ⟨o, d⟩ := p
  cases d <;> cases Op.bytesLess x.name.toList r.name.toList <;> cases (x.name.toList == r.name.toList) <;> simp <;> omega
theorem putK_len {l : List RunX} {r : RunX} : ∀ {k : Nat}, k ≤ l.length → (putK l r k).1.length + (if (putK l r k).2 = true then 0 else 1) ≤ k + 1
  | 0, _ => by rw [putK_zero]; simp
  | k + 1, h => by
    have h1 := putK_len (l := l) (r := r) (k := k) (by omega)
    have h2 := putR_len r (putK l r k) (l.getD k RunX.zero)
    rw [putK_succ (by omega)]
    omega
def putEnd (r : RunX) (p : List RunX × Bool) : List RunX := if p.2 = true then p.1 else p.1 ++ [r]
theorem put_done (r : RunX) : ∀ (l acc : List RunX), l.foldl (putR r) (acc, true) = (acc ++ l.filter (fun x => !(x.name.toList == r.name.toList)), true)
  | [], acc => by simp
  | x :: l, acc => by
    rw [List.foldl_cons]
    have e : putR r (acc, true) x = (acc ++ (if (x.name.toList == r.name.toList) = true then [] else [x]), true) := by
      unfold putR putB putA
      cases (x.name.toList == r.name.toList) <;> simp
    rw [e, put_done r l]
    cases h : (x.name.toList == r.name.toList) <;> simp [h]
theorem put_fold (r : RunX) : ∀ (l acc : List RunX), AscX l → putEnd r (l.foldl (putR r) (acc, false)) = acc ++ insX l r
  | [], acc, _ => by simp [putEnd, insX]
  | x :: l, acc, h => by
    have h' := h
    rw [AscX, List.pairwise_cons] at h'
    rw [List.foldl_cons]
    cases hx : Op.bytesLess x.name.toList r.name.toList with
    | true =>
      have hne : (x.name.toList == r.name.toList) = false := by
        rw [beq_eq_false_iff_ne]
        intro e
        exact lessX_ne (a := x.name) (b := r.name) hx (toList_inj.1 e)
      have hgt : Op.bytesLess r.name.toList x.name.toList = false := by
        cases hg : Op.bytesLess r.name.toList x.name.toList with
        | false => rfl
        | true => exact absurd hg (lessX_asymm (a := x.name) (b := r.name) hx)
      have e : putR r (acc, false) x = (acc ++ [x], false) := by simp [putR, putB, putA, hx, hne]
      rw [e, put_fold r l _ h'.2]
      simp [insX, hx, hgt]
    | false =>
      have hge : ∀ y ∈ x :: l, Op.bytesLess y.name.toList r.name.toList = false := by
        intro y hy
        rcases List.mem_cons.1 hy with rfl | hy
        · exact hx
        · cases hg : Op.bytesLess y.name.toList r.name.toList with
          | false => rfl
          | true =>
            have := lessX_trans (h'.1 y hy) (show lessX y.name r.name from hg)
            unfold lessX at this
            rw [hx] at this
            cases this
      have f1 : (x :: l).filter (fun y => Op.bytesLess y.name.toList r.name.toList) = [] := by
        rw [List.filter_eq_nil_iff]
        intro y hy
        rw [hge y hy]
        simp
      have f2 : (x :: l).filter (fun y => Op.bytesLess r.name.toList y.name.toList) = (x :: l).filter (fun y => !(y.name.toList == r.name.toList)) := by
        refine List.filter_congr fun y hy => ?_
        rcases lessX_total r.name y.name with h3 | h3 | h3
        · have e2 : (y.name.toList == r.name.toList) = false := by
            rw [beq_eq_false_iff_ne]
            intro e
            exact lessX_ne h3 (toList_inj.1 e).symm
          unfold lessX at h3
          rw [h3, e2]
          rfl
        · rw [h3, less_irrefl]
          simp
        · unfold lessX at h3
          rw [hge y hy] at h3
          cases h3
      have e : putR r (acc, false) x = (acc ++ [r] ++ (if (x.name.toList == r.name.toList) = true then [] else [x]), true) := by
        unfold putR putB putA
        cases (x.name.toList == r.name.toList) <;> simp [hx]
      rw [e, put_done]
      unfold putEnd insX
      rw [f1, f2]
      cases h : (x.name.toList == r.name.toList) <;> simp [h]
theorem put_end {l : List RunX} {r : RunX} (h : AscX l) : putEnd r (putK l r l.length) = insX l r := by
  unfold putK
  rw [List.take_length, put_fold r l [] h, List.nil_append]

end Go.Proofs.YtghipdfemoofhaaGreatDoor

namespace Go.Proofs.YtghipdfemoofhaaGreatDoor

section
variable {webl : List NodeD} {Gl σ0 σs σ : Env} {ns : List ByteArray} {i : Nat} {b : Bool}

structure PassX (webl : List NodeD) (Gl σ0 σs : Env) (ns : List ByteArray) (σ : Env) (i : Nat) (b : Bool) : Prop where
  led : ∃ k, Leads (Behind (W := actsOf webl) behindI Gl) (doX (actsOf webl)) σ0 σ k
  no : b = false → σ = σs ∧ ∀ j, j < i → ¬ Behind (W := actsOf webl) behindI Gl σs (ns.getD j ByteArray.empty)
  yes : b = true → potAll (webl.map (·.name)) σ < potAll (webl.map (·.name)) σs
theorem PassX.start (hl : ∃ k, Leads (Behind (W := actsOf webl) behindI Gl) (doX (actsOf webl)) σ0 σs k) : PassX webl Gl σ0 σs ns σs 0 false :=
  ⟨hl, fun _ => ⟨rfl, fun j hj => absurd hj (Nat.not_lt_zero _)⟩, fun h => by cases h⟩
theorem PassX.skip (h : PassX webl Gl σ0 σs ns σ i b) (hn : ¬ Behind (W := actsOf webl) behindI Gl σ (ns.getD i ByteArray.empty)) : PassX webl Gl σ0 σs ns σ (i + 1) b :=
  ⟨h.led, fun hb => ⟨(h.no hb).1, fun j hj => by
    by_cases e : j = i
    · subst e
      rw [← (h.no hb).1]
      exact hn
    · exact (h.no hb).2 j (by omega)⟩, h.yes⟩
theorem PassX.did (hw : WfX (actsOf webl) σ) (h : PassX webl Gl σ0 σs ns σ i b) {n : ByteArray} (hn : Behind (W := actsOf webl) behindI Gl σ n) : PassX webl Gl σ0 σs ns (doX (actsOf webl) σ n) (i + 1) true := by
  obtain ⟨k, hk⟩ := h.led
  obtain ⟨r, hr, _⟩ := hn.1
  have hp := (potAll_do hw hn.1 (webl.map (·.name))).2 (acts_in (hw n r hr).web)
  refine ⟨⟨k + 1, hk.snoc hn⟩, fun hb => (by cases hb), fun _ => ?_⟩
  cases b with
  | true => have := h.yes rfl; omega
  | false => rw [(h.no rfl).1] at hp ⊢; exact hp
theorem PassX.atEnd (h : PassX webl Gl σ0 σs ns σ ns.length false) (hns : ∀ n r, σs n = some r → n ∈ ns) : AtEnd (Behind (W := actsOf webl) behindI Gl) σ := by
  obtain ⟨h1, h2⟩ := h.no rfl
  intro n hn
  rw [h1] at hn
  obtain ⟨r, hr, _⟩ := hn.1
  obtain ⟨j, hj, e⟩ := List.getElem_of_mem (hns n r hr)
  have := h2 j hj
  simp only [List.getD, List.getElem?_eq_getElem hj, Option.getD_some, e] at this
  exact this hn

end
end Go.Proofs.YtghipdfemoofhaaGreatDoor
