import Derived.Test.YtgnkgfjmbmcfcaaGreatDoorKHInt
import Derived.Test.YtgnkgfjmbmcfcaaGreatDoorKBRangeC
set_option maxRecDepth 100000
set_option maxHeartbeats 25600000
namespace Go.Proofs.YtgnkgfjmbmcfcaaGreatDoor
open Go.RowKit
theorem type_cells {w:World} {b:Nat} {t:TypeId} (h:TypeAt w b t) {o:Obj} (ho:w.heap[b]? =some o):o.isCells=true:=by
 obtain ⟨cur,fr,hc⟩:=h
 rw [hc] at ho
 cases ho
 rfl
theorem TypeAt.set {w:World} {b:Nat} {t:TypeId} (h:TypeAt w b t) (p:Addr) (v:Value):TypeAt (w.setCell p v) b t:=by
 obtain ⟨cur,fr,hc⟩:=h
 by_cases e:b=p.block
 ·subst e
  obtain ⟨hlt,hk⟩:=Array.getElem?_eq_some_iff.1 hc
  apply Exists.intro
  apply Exists.intro (w:=fr)
  show (w.heap.modify p.block _)[p.block]? =_
  rw [Array.getElem?_eq_getElem (by rw [Array.size_modify];exact hlt),Array.getElem_modify_self,hk]
 ·exact ⟨cur,fr,(Below.heap_setCell w p v b e).trans hc⟩
structure InB (B:Nat) (Kf Kc:Nat->Prop) (ps:List (Nat×ByteArray)) (W0:World) (Kj:List Qq) (wz W:World) (bb:Nat) (a:Option Addr) (cap:Nat) (rd:Option Addr) (rn rc:Nat) (mb mx:Nat) (ts:List Zx) (d:Option Addr) (dc:Nat) (f:ByteArray->Value) (ws:ByteArray->List Nat):Prop where
 bm:BM ⟨W,fun k=> Kf k∨Kc k,ps,fun _=> False⟩ Kj wz W bb a cap rd rn rc mb mx ts d dc f ws
 same: ∀k,Kf k->W.heap[k]? =W0.heap[k]?
 lt: ∀k,Kf k∨Kc k->k < B
 mlt:mb < B
 size:B<=W.heap.size
 zlt:wz.heap.size<=B
 ctype: ∀k,Kc k->wz.heap.size<=k∧∃t,TypeAt W k t∧t≠145
section
variable {B : Nat} {Kf Kc : Nat -> Prop} {ps : List (Nat × ByteArray)} {W0 : World} {Kj : List Qq} {wz W W' : World} {bb : Nat} {a : Option Addr} {cap : Nat} {rd : Option Addr} {rn rc : Nat} {mb mx : Nat} {ts : List Zx} {d : Option Addr} {dc : Nat} {f : ByteArray -> Value} {ws : ByteArray -> List Nat}
theorem BM.as {G G':Ghost} (h:BM G Kj wz W bb a cap rd rn rc mb mx ts d dc f ws) (hF:Fen G' W bb mb ts f) (hG: ∀x,(Value.slice d ts.length dc).ownBlock=some x->¬(G'.I x∧G'.K x)):BM G' Kj wz W bb a cap rd rn rc mb mx ts d dc f ws:=
 ⟨h.kw,h.row,h.c0,h.c1,h.c2,h.c3,h.c4,h.c5,h.low,h.items,h.task,h.act,h.asc,h.tbs,h.sep,h.sep2,h.map,h.mlow,h.wrow,h.wsep,h.isep,h.qb,hF,hG⟩
theorem BM.no {G:Ghost} (h:BM G Kj wz W bb a cap rd rn rc mb mx ts d dc f ws):BM (Ghost.no wz) Kj wz W bb a cap rd rn rc mb mx ts d dc f ws:=h.as (Fen.no h.kw.size) (fun _ _ h=> h.1)
theorem BM.block {G:Ghost} (h:BM G Kj wz W bb a cap rd rn rc mb mx ts d dc f ws) {S:Nat->Prop} (hm: ¬S mb) (hS: ∀b,S b->∀t,¬TypeAt W b t): ¬S bb∧¬S mb∧(∀b,(Value.slice d ts.length dc).ownBlock=some b->¬S b)∧(∀s b,(f s).ownBlock=some b->¬S b)∧∀t∈ts,¬S t.tb∧∀x∈t.own,¬S x:=
 ⟨fun e=> hS _ e _ h.row.type,hm,fun _b hb e=> hS _ e _ (Yz h.items hb),fun s _b hb e=> hS _ e _ (Yz (h.wrow s) hb),fun t ht=> ⟨fun e=> hS _ e _ (h.task t ht).row.type,fun _x hx e=> hS _ e _ ((h.task t ht).own_type hx).1⟩⟩
theorem InB.but {S:Nat->Prop} (h:InB B Kf Kc ps W0 Kj wz W bb a cap rd rn rc mb mx ts d dc f ws) (k:But S W W') (hz: ∀b,S b->wz.heap.size<=b) (hb: ¬S bb∧¬S mb∧(∀b,(Value.slice d ts.length dc).ownBlock=some b->¬S b)∧(∀s b,(f s).ownBlock=some b->¬S b)∧∀t∈ts,¬S t.tb∧∀x∈t.own,¬S x) (hf: ∀b,S b->¬Kf b) (hc: ∀b,S b->Kc b->∀t,TypeAt W b t->TypeAt W' b t):InB B Kf Kc ps W0 Kj wz W' bb a cap rd rn rc mb mx ts d dc f ws:=by
 have h1:=h.bm.no.but k hz hb.1 hb.2.1 hb.2.2.1 hb.2.2.2.1 hb.2.2.2.2 (fun _ _=> id)
 have ho:=h.bm.oth
 refine ⟨h1.as ⟨Nat.le_refl _,fun b hb=> Nat.lt_of_lt_of_le (ho.lt b hb) k.size,fun _ _=> rfl,ho.nb,ho.nm,ho.nt,ho.nf,ho.has⟩ (fun _ _ h=> h.1),fun b hb=> ?_,h.lt,h.mlt,Nat.le_trans h.size k.size,h.zlt,fun b hb=> ?_⟩
 ·exact (k.block b (ho.lt b (.inl hb)) (fun e=> hf b e hb)).trans (h.same b hb)
 ·obtain ⟨g1,t,g2,g3⟩:=h.ctype b hb
  refine ⟨g1,t, ?_,g3⟩
  by_cases e:S b
  ·exact hc b e hb t g2
  ·obtain ⟨cur,fr,hcur⟩:=g2
   exact ⟨cur,fr,by rw [k.block b (ho.lt b (.inr hb)) e];exact hcur⟩
theorem InB.kept (h:InB B Kf Kc ps W0 Kj wz W bb a cap rd rn rc mb mx ts d dc f ws) (k:K_ W W'):InB B Kf Kc ps W0 Kj wz W' bb a cap rd rn rc mb mx ts d dc f ws:=
 h.but (S:=fun _=> False) (But.of_kept k) (fun _ e=> e.elim) ⟨id,id,fun _ _=> id,fun _ _ _=> id,fun _ _=> ⟨id,fun _ _=> id⟩⟩ (fun _ e=> e.elim) (fun _ e=> e.elim)
theorem keeps_of_kept (k:K_ W W') (B:Nat):KeepsFrom B W W':= ⟨k.size,fun b _o _ hb _=> (k.block b (heap_lt hb)).trans hb⟩
theorem InB.calm (h:InB B Kf Kc ps W0 Kj wz W bb a cap rd rn rc mb mx ts d dc f ws) {l:Nat} {o:Obj} (o':Obj) (hl:B<=l) (ho:W.heap[l]? =some o) (hn:o.isCells=false):InB B Kf Kc ps W0 Kj wz (W.putObj l o') bb a cap rd rn rc mb mx ts d dc f ws:=by
 have k:But (fun b=> b=l) W (W.putObj l o'):= ⟨rfl,rfl,rfl,by rw [World.putObj_size];exact Nat.le_refl _,fun b _ e=> World.putObj_heap_other e⟩
 refine h.but k (fun b e=> by rw [e];exact Nat.le_trans h.zlt hl) (h.bm.block (S:=fun b=> b=l) (fun (e:mb=l)=> by have:=h.mlt;omega) (fun b e t ht=> ?_)) (fun b e hk=> ?_) (fun b e hk=> ?_)
 ·have:=type_cells ht (by rw [e];exact ho)
  rw [hn] at this
  cases this
 ·have:=h.lt b (.inl hk);omega
 ·have:=h.lt b (.inr hk);omega
theorem InB.store (h:InB B Kf Kc ps W0 Kj wz W bb a cap rd rn rc mb mx ts d dc f ws) {p:Addr} (hp:Kc p.block) (hn: ¬Kf p.block) (v:Value):InB B Kf Kc ps W0 Kj wz (W.setCell p v) bb a cap rd rn rc mb mx ts d dc f ws:=by
 have k:But (fun b=> b=p.block) W (W.setCell p v):=But.set (S:=fun b=> b=p.block) (But.of_kept (K_.refl W)) rfl _
 have ho:=h.bm.oth
 obtain ⟨g1,t,g2,g3⟩:=h.ctype _ hp
 refine h.but k (fun b e=> by rw [e];exact g1) ⟨fun e=> ho.nb (by rw [e];exact .inr hp),fun e=> ho.nm (by rw [e];exact .inr hp),fun b hb e=> ?_,fun s b hb e=> ho.nf s b hb (by rw [e];exact .inr hp),fun u hu=> ⟨fun e=> (ho.nt u hu).1 (by rw [e];exact .inr hp),fun x hx e=> (ho.nt u hu).2 x hx (by rw [e];exact .inr hp)⟩⟩ (fun b e=> by rw [e];exact hn) (fun b e _ u hu=> ?_)
 ·rw [e] at hb
  exact type_ne g2 (Yz h.bm.items hb) g3 rfl
 ·obtain ⟨cur,fr,hc⟩:=hu
  rw [e] at hc⊢
  exact TypeAt.set ⟨cur,fr,hc⟩ p v
def inG (B:Nat) (Kf Kc:Nat->Prop) (ps:List (Nat×ByteArray)) (W:World):Ghost:= ⟨W,fun k=> (Kf k∨Kc k)∨(B<=k∧∃o,W.heap[k]? =some o∧o.isCells=false),ps,fun _=> False⟩
theorem InB.told (h:InB B Kf Kc ps W0 Kj wz W bb a cap rd rn rc mb mx ts d dc f ws):BM (inG B Kf Kc ps W) Kj wz W bb a cap rd rn rc mb mx ts d dc f ws:=by
 have ho:=h.bm.oth
 have hb:=h.bm.block (S:=fun k=> B<=k∧∃o,W.heap[k]? =some o∧o.isCells=false) (fun e=> by have:=h.mlt;omega) (fun b e t ht=> by
  obtain ⟨_,o,h1,h2⟩:=e
  have:=type_cells ht h1
  rw [h2] at this
  cases this)
 refine h.bm.as ⟨Nat.le_refl _,fun k hk=> ?_,fun _ _=> rfl, ?_, ?_,fun t ht=> ⟨?_,fun x hx=> ?_⟩,fun s x hx=> ?_,ho.has⟩ (fun _ _ h=> h.1)
 ·rcases hk with hk | ⟨_,o,h1,_⟩
  ·exact ho.lt k hk
  ·exact heap_lt h1
 ·rintro (e | e)
  ·exact ho.nb e
  ·exact hb.1 e
 ·rintro (e | e)
  ·exact ho.nm e
  ·exact hb.2.1 e
 ·rintro (e | e)
  ·exact (ho.nt t ht).1 e
  ·exact (hb.2.2.2.2 t ht).1 e
 ·rintro (e | e)
  ·exact (ho.nt t ht).2 x hx e
  ·exact (hb.2.2.2.2 t ht).2 x hx e
 ·rintro (e | e)
  ·exact ho.nf s x hx e
  ·exact hb.2.2.2.1 s x hx e
theorem InB.did (h:InB B Kf Kc ps W0 Kj wz W bb a cap rd rn rc mb mx ts d dc f ws) {mx':Nat} {ts':List Zx} {d':Option Addr} {dc':Nat} {f':ByteArray->Value} {ws':ByteArray->List Nat} (h':BM (inG B Kf Kc ps W) Kj wz W' bb a cap rd rn rc mb mx' ts' d' dc' f' ws'):InB B Kf Kc ps W0 Kj wz W' bb a cap rd rn rc mb mx' ts' d' dc' f' ws'∧KeepsFrom B W W'∧∀k,Kc k->W'.heap[k]? =W.heap[k]? :=by
 have ho:=h'.oth
 have hs: ∀k,Kf k∨Kc k->W'.heap[k]? =W.heap[k]? :=fun k hk=> ho.same k (.inl hk)
 refine ⟨⟨h'.as ⟨Nat.le_refl _,fun k hk=> Nat.lt_of_lt_of_le (ho.lt k (.inl hk)) ho.size,fun _ _=> rfl,fun e=> ho.nb (.inl e),fun e=> ho.nm (.inl e),fun t ht=> ⟨fun e=> (ho.nt t ht).1 (.inl e),fun x hx e=> (ho.nt t ht).2 x hx (.inl e)⟩,fun s x hx e=> ho.nf s x hx (.inl e),ho.has⟩ (fun _ _ h=> h.1),fun k hk=> (hs k (.inl hk)).trans (h.same k hk),h.lt,h.mlt,Nat.le_trans h.size ho.size,h.zlt,fun k hk=> ?_⟩,⟨ho.size,fun k o hB hk hc=> (ho.same k (.inr ⟨hB,o,hk,hc⟩)).trans hk⟩,fun k hk=> hs k (.inr hk)⟩
 obtain ⟨g1,t,⟨cur,fr,hc⟩,g3⟩:=h.ctype k hk
 exact ⟨g1,t,⟨cur,fr,by rw [hs k (.inr hk)];exact hc⟩,g3⟩
theorem InB.start (h:BM (Ghost.no wz) Kj wz W bb a cap rd rn rc mb mx ts d dc f ws) (hK: ∀k,Kf k∨Kc k->k < W.heap.size∧k≠bb∧k≠mb∧(∀t∈ts,k≠t.tb∧k∉t.own)∧∀s,(f s).ownBlock≠some k) (hc: ∀k,Kc k->wz.heap.size<=k∧∃t,TypeAt W k t∧t≠145) (hps: ∀p∈ps,∃t∈ts,t.tb=p.1∧t.r.name=p.2):InB W.heap.size Kf Kc ps W Kj wz W bb a cap rd rn rc mb mx ts d dc f ws:=by
 obtain ⟨N,D,_,hM,_⟩:=h.map
 obtain ⟨es,clock,hb,_⟩:=hM
 exact ⟨h.as ⟨Nat.le_refl _,fun k hk=> (hK k hk).1,fun _ _=> rfl,fun e=> (hK _ e).2.1 rfl,fun e=> (hK _ e).2.2.1 rfl,fun t ht=> ⟨fun e=> ((hK _ e).2.2.2.1 t ht).1 rfl,fun x hx e=> ((hK _ e).2.2.2.1 t ht).2 hx⟩,fun s x hx e=> (hK _ e).2.2.2.2 s hx,hps⟩ (fun _ _ h=> h.1),fun _ _=> rfl,fun k hk=> (hK k hk).1,heap_lt hb,Nat.le_refl _,h.kw.size,hc⟩
end
