import Derived.Test.YtieeffpandfpbaaGreatDoorKXWaits
import Derived.Sort.KeysCollected
set_option maxRecDepth 100000
set_option maxHeartbeats 25600000
namespace Go.Proofs.YtieeffpandfpbaaGreatDoor
open Go.RowKit
def WaitsOn (ts:List Zx) (ws:ByteArray->List Nat) (x s:ByteArray):Prop:= ∃t∈ts,t.r.name=x∧t.tb∈ws s
structure OutI (ts:List Zx) (ws:ByteArray->List Nat) (M:Nat) (P:ByteArray->Prop) (ol:ByteArray->List ByteArray):Prop where
 iff: ∀x s,s∈ol x↔P s∧WaitsOn ts ws x s
 nd: ∀x,(ol x).Nodup
 len: ∀x,(ol x).length<=M
theorem OutI.start {ts:List Zx} {ws:ByteArray->List Nat} {P:ByteArray->Prop} (h: ∀s,¬P s):OutI ts ws 0 P (fun _=> []):=
 ⟨fun x s=> ⟨fun e=> (by cases e),fun e=> (h s e.1).elim⟩,fun _=> List.nodup_nil,fun _=> Nat.le_refl _⟩
structure OutJ (ts:List Zx) (ws:ByteArray->List Nat) (M:Nat) (P:ByteArray->Prop) (s:ByteArray) (k:Nat) (ol:ByteArray->List ByteArray):Prop where
 iff: ∀x s',s'∈ol x↔(P s'∧WaitsOn ts ws x s')∨(s'=s∧∃t∈ts,t.r.name=x∧t.tb∈(ws s).take k)
 nd: ∀x,(ol x).Nodup
 len: ∀x,(ol x).length<=M
theorem OutI.enter {ts:List Zx} {ws:ByteArray->List Nat} {M:Nat} {P:ByteArray->Prop} {ol:ByteArray->List ByteArray} (h:OutI ts ws M P ol) (s:ByteArray):OutJ ts ws M P s 0 ol:=
 ⟨fun x s'=> by rw [h.iff];simp,h.nd,h.len⟩
theorem OutJ.leave {ts:List Zx} {ws:ByteArray->List Nat} {M:Nat} {P Q:ByteArray->Prop} {s:ByteArray} {k:Nat} {ol:ByteArray->List ByteArray} (h:OutJ ts ws M P s k ol) (hk: (ws s).length<=k) (hQ: ∀s',Q s'↔P s'∨s'=s):OutI ts ws M Q ol:=
 ⟨fun x s'=> by
  rw [h.iff,hQ,List.take_of_length_le hk]
  constructor
  ·rintro (⟨h1,h2⟩ | ⟨h1,h2⟩)
   ·exact ⟨.inl h1,h2⟩
   ·subst h1;exact ⟨.inr rfl,h2⟩
  ·rintro ⟨h1 | h1,h2⟩
   ·exact .inl ⟨h1,h2⟩
   ·subst h1;exact .inr ⟨rfl,h2⟩,h.nd,h.len⟩
theorem OutJ.put {ts:List Zx} {ws:ByteArray->List Nat} {M:Nat} {P:ByteArray->Prop} {s:ByteArray} {k:Nat} {ol:ByteArray->List ByteArray} (h:OutJ ts ws M P s k ol) (hP: ¬P s) (ha:AscX (Qk ts)) (hn: (ts.map (·.tb)).Nodup) (hw: (ws s).Nodup) {u:Zx} (hu:u∈ts) (hk: (ws s)[k]? =some u.tb):
  OutJ ts ws (M+1) P s (k+1) (fun n=> if n=u.r.name then ol u.r.name++ [s] else ol n):=by
 obtain ⟨hkl,hke⟩:=List.getElem?_eq_some_iff.1 hk
 have htk: (ws s).take (k+1)= (ws s).take k++ [u.tb]:=by rw [List.take_succ_eq_append_getElem hkl,hke]
 have one: ∀t∈ts,t.r.name=u.r.name->t=u:=fun t ht e=> by
  have h1:=asc_env ha (List.mem_map_of_mem (f:=fun t:Zx=> t.r) ht)
  have h2:=asc_env ha (List.mem_map_of_mem (f:=fun t:Zx=> t.r) hu)
  rw [e,h2] at h1
  obtain ⟨i,hi,rfl⟩:=List.getElem_of_mem ht
  obtain ⟨j,hj,rfl⟩:=List.getElem_of_mem hu
  rcases Nat.lt_trichotomy i j with g | g | g
  ·have:=List.pairwise_iff_getElem.1 ha i j (by simpa [Qk] using hi) (by simpa [Qk] using hj) g
   simp only [Qk,List.getElem_map] at this
   exact absurd e (lessX_ne this)
  ·subst g;rfl
  ·have:=List.pairwise_iff_getElem.1 ha j i (by simpa [Qk] using hj) (by simpa [Qk] using hi) g
   simp only [Qk,List.getElem_map] at this
   exact absurd e.symm (lessX_ne this)
 have hnin:u.tb∉(ws s).take k:=fun h=> by
  obtain ⟨q,hq,e⟩:=List.getElem_of_mem h
  rw [List.length_take] at hq
  rw [List.getElem_take] at e
  have:=List.pairwise_iff_getElem.1 hw q k (by omega) hkl (by omega)
  exact this (e.trans hke.symm)
 refine ⟨fun x s'=> ?_,fun x=> ?_,fun x=> ?_⟩
 ·by_cases e:x=u.r.name
  ·simp only [if_pos e]
   subst e
   rw [List.mem_append,List.mem_singleton,h.iff,htk]
   constructor
   ·rintro ((h1 | ⟨h1,t,h2,h3,h4⟩) | h1)
    ·exact .inl h1
    ·exact .inr ⟨h1,t,h2,h3,List.mem_append.2 (.inl h4)⟩
    ·exact .inr ⟨h1,u,hu,rfl,List.mem_append.2 (.inr (by simp))⟩
   ·rintro (h1 | ⟨h1,t,h2,h3,h4⟩)
    ·exact .inl (.inl h1)
    ·exact .inr h1
  ·simp only [if_neg e]
   rw [h.iff,htk]
   constructor
   ·rintro (h1 | ⟨h1,t,h2,h3,h4⟩)
    ·exact .inl h1
    ·exact .inr ⟨h1,t,h2,h3,List.mem_append.2 (.inl h4)⟩
   ·rintro (h1 | ⟨h1,t,h2,h3,h4⟩)
    ·exact .inl h1
    ·rcases List.mem_append.1 h4 with h4 | h4
     ·exact .inr ⟨h1,t,h2,h3,h4⟩
     ·rw [List.mem_singleton] at h4
      have:=tb_one hn h2 hu h4
      rw [this] at h3
      exact absurd h3.symm e
 ·by_cases e:x=u.r.name
  ·simp only [if_pos e]
   rw [List.nodup_append]
   refine ⟨h.nd _,by simp,fun a ha' b hb hab=> ?_⟩
   rw [List.mem_singleton] at hb
   rw [hab,hb,h.iff] at ha'
   rcases ha' with ⟨h1,_⟩ | ⟨_,t,h2,h3,h4⟩
   ·exact hP h1
   ·rw [one t h2 h3] at h4
    exact hnin h4
  ·simp only [if_neg e];exact h.nd x
 ·by_cases e:x=u.r.name
  ·simp only [if_pos e]
   rw [List.length_append]
   have:=h.len u.r.name
   show _+1<=M+1
   omega
  ·simp only [if_neg e]
   have:=h.len x
   omega
theorem ranges_but {H:Type} {P:Program} {k:TypeId} {Rr:Value->Option (DataW H×List MemPlace)} {w w':World} {b r n:Nat} {D:DataW H} {left:Lit->Bool} {cnt:Nat} {S:Nat->Prop} (h:w.ranges P k Rr b r n D left cnt) (q:But S w w') (hb: ¬S b) (hr: ¬S r):w'.ranges P k Rr b r n D left cnt:=by
 obtain ⟨es,clock,since,seen,c0,h1,h2,h3,h4,h5,h6⟩:=h
 exact ⟨es,clock,since,seen,c0,(q.block b (heap_lt h1) hb).trans h1,h2,h3,h4,(q.block r (heap_lt h5) hr).trans h5,h6⟩
theorem ranges_iter {H:Type} {P:Program} {k:TypeId} {Rr:Value->Option (DataW H×List MemPlace)} {w:World} {b r n:Nat} {D:DataW H} {left:Lit->Bool} {cnt:Nat} (h:w.ranges P k Rr b r n D left cnt) {t:TypeId}: ¬TypeAt w r t:=by
 obtain ⟨es,clock,since,seen,c0,_,_,_,_,h5,_⟩:=h
 rintro ⟨cur,fr,e⟩
 rw [h5] at e
 cases e
theorem ranges_map {H:Type} {P:Program} {k:TypeId} {Rr:Value->Option (DataW H×List MemPlace)} {w:World} {b r n:Nat} {D:DataW H} {left:Lit->Bool} {cnt:Nat} (h:w.ranges P k Rr b r n D left cnt) {t:TypeId}: ¬TypeAt w b t:=by
 obtain ⟨es,clock,since,seen,c0,h1,_⟩:=h
 rintro ⟨cur,fr,e⟩
 rw [h1] at e
 cases e
theorem key_same {s s':ByteArray}: (keyLit s').sameKey (keyLit s)=true↔s'=s:=by
 constructor
 ·intro h
  by_cases e:s'=s
  ·exact e
  ·rw [Maps.sameKey_ne (keyLit_ne e)] at h;cases h
 ·rintro rfl
  simp [keyLit,Lit.sameKey]
section
variable {G : Ghost} {Kj : List Qq} {wz w w' : World} {bb : Nat} {a : Option Addr} {cap : Nat} {rd : Option Addr} {rn rc : Nat} {mb mx : Nat} {ts : List Zx} {d : Option Addr} {dc : Nat} {f : ByteArray -> Value} {ws : ByteArray -> List Nat}
end
