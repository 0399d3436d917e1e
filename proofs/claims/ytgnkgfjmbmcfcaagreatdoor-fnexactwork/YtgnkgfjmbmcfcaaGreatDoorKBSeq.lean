import Derived.Test.YtgnkgfjmbmcfcaaGreatDoorKHCrew2
import Derived.Test.YtgnkgfjmbmcfcaaGreatDoorKBLook
import Derived.Test.YtgnkgfjmbmcfcaaGreatDoorKBSame
import Derived.Test.YtgnkgfjmbmcfcaaGreatDoorKBRound
import Derived.OwnWalkIn
set_option maxRecDepth 100000
set_option maxHeartbeats 25600000
namespace Go.Proofs.YtgnkgfjmbmcfcaaGreatDoor
open Go.RowKit
section
variable {Kj : List Qq} {wz w w' : World} {cb qb mq : Nat} {g : ByteArray -> Option Int} {R : List RowD} {ps : List (Nat × ByteArray)} {bb : Nat} {a : Option Addr} {cap : Nat} {rd : Option Addr} {rn rc mb mx mx' : Nat} {ts ts' : List Zx} {d d' : Option Addr} {dc dc' : Nat} {f f' : ByteArray -> Value} {ws ws' : ByteArray -> List Nat}
theorem CrewM.did (h:CrewM Kj wz w cb qb mq g R ps bb a cap rd rn rc mb mx ts d dc f ws) (h':BM (crewG w cb qb R ps) Kj wz w' bb a cap rd rn rc mb mx' ts' d' dc' f' ws'):CrewM Kj wz w' cb qb mq g R (psOf ts') bb a cap rd rn rc mb mx' ts' d' dc' f' ws':=by
 have ho:=h'.oth
 have k:But (fun x=> ¬KB cb qb R x) w w':= ⟨h'.kw.os.trans h.bm.kw.os.symm,h'.kw.tape.trans h.bm.kw.tape.symm,h'.kw.output.trans h.bm.kw.output.symm,ho.size,fun b _ hn=> ho.same b (Classical.not_not.1 hn)⟩
 have hb:=h.row.lt
 have nb: ¬¬KB cb qb R cb:=fun x=> x (.inl rfl)
 refine ⟨h'.as ⟨Nat.le_refl _,fun x hx=> Nat.lt_of_lt_of_le (KB.lt h hx).1 ho.size,fun _ _=> rfl,ho.nb,ho.nm,ho.nt,ho.nf,fun p hp=> ?_⟩ h'.gi,k.row h.row nb,(k.cell hb nb).trans h.c0,(k.cell hb nb).trans h.c2,(k.cell hb nb).trans h.c4,(k.cell hb nb).trans h.c6,(k.cell hb nb).trans h.c8,(k.cell hb nb).trans h.c10,h.caus.but k (fun x=> x (.inr (.inl rfl))),h.low,h.qlow,fun r hr=> ⟨(k.cell hb nb).trans (h.rows r hr).1,k.owns (h.rows r hr).2.1 (fun x hx e=> e (.inr (.inr ⟨r,hr,hx⟩))),(h.rows r hr).2.2⟩,h.ros,h.rod,h.sep⟩
 obtain ⟨t,ht,rfl⟩:=List.mem_map.1 hp
 exact ⟨t,ht,rfl,rfl⟩
theorem CrewM.more {mq':Nat} (h:CrewM Kj wz w cb qb mq g R ps bb a cap rd rn rc mb mx ts d dc f ws) (hm:mq<=mq'):CrewM Kj wz w cb qb mq' g R ps bb a cap rd rn rc mb mx ts d dc f ws:=
 ⟨h.bm,h.row,h.c0,h.c2,h.c4,h.c6,h.c8,h.c10,(by obtain ⟨N,D,h1,h2⟩:=h.caus;exact ⟨N,D,Nat.le_trans h1 hm,h2⟩),h.low,h.qlow,h.rows,h.ros,h.rod,h.sep⟩
end
structure CrewC where
 Kj:List Qq
 wz:World
 wk:Nat
 cb:Nat
 qb:Nat
 bb:Nat
 a:Option Addr
 cap:Nat
 rd:Option Addr
 rn:Nat
 rc:Nat
 mb:Nat
structure CrewD where
 g:ByteArray->Option Int
 loc:ByteArray->Nat
 es:Nat->EffX
 ea:Option Addr
 ec:Nat
 oF:Nat->ByteArray
 on:Nat
 oa:Option Addr
 oc:Nat
 sF:Nat->ByteArray
 sn:Nat
 sa:Option Addr
 sc:Nat
 eF:Nat->EffX
 en:Nat
 xa:Option Addr
 xc:Nat
 fF:Nat->Nat
 fn:Nat
 fa:Option Addr
 fc:Nat
 ts:List Zx
 d:Option Addr
 dc:Nat
 f:ByteArray->Value
 ws:ByteArray->List Nat
def CrewD.rows (D:CrewD) (n:Nat):List RowD:=[rowE D.loc D.es n D.ea D.ec,rowT 3 D.loc D.oF D.on D.oa D.oc,rowT 5 D.loc D.sF D.sn D.sa D.sc,rowX D.loc D.eF D.en D.xa D.xc,rowI D.fF D.fn D.fa D.fc]
def CrewW (c:CrewC) (mx mq n:Nat) (D:CrewD) (w:World):Prop:=CrewM c.Kj c.wz w c.cb c.qb mq D.g (D.rows n) (psOf D.ts) c.bb c.a c.cap c.rd c.rn c.rc c.mb mx D.ts D.d D.dc D.f D.ws
structure CrewI (c:CrewC) (mx mq:Nat) (S:Shop) (Q:ByteArray->Prop) (D:CrewD) (w:World):Prop where
 mem:CrewW c mx mq S.slots.length D w
 bs:BS c.Kj D.ts D.ws
 run:Qk D.ts=S.T
 pl:CrewP (Q_ c.Kj) c.wk S Q D.g D.es D.oF D.on D.sF D.sn D.eF D.en D.fF D.fn
 loc: ∀t∈D.ts,D.loc t.r.name=t.tb
 sn: ∀s∈S.slots,(Qj S.T s.name).isSome=true
def OkT (W:Acts) (loc:ByteArray->Nat) (x:ByteArray) (u:World):Prop:=loc x < u.heap.size∧u.cell? ⟨loc x,0,none⟩=some (.string x)∧u.cell? ⟨loc x,7,none⟩=some (.int .i64 (costW W x))
theorem named_ahead (W:Acts) (loc:ByteArray->Nat):AheadM 66 (fun x:ByteArray=> .pointer (some ⟨loc x,0,none⟩)) aheadN (OkT W loc):=fun x y u hx hy=> namedLess_any u hx.2.1 hy.2.1
theorem costs_ahead (W:Acts) (loc:ByteArray->Nat):AheadM 65 (fun x:ByteArray=> .pointer (some ⟨loc x,0,none⟩)) (fun x y=> aheadC (costW W x) (costW W y) x y) (OkT W loc):=fun x y u hx hy=> costsMore_any u hx.2.1 hy.2.1 hx.2.2 hy.2.2
theorem int_ahead :AheadM 68 (fun x:Nat=> .int .i64 (x:Int)) aheadI (fun _ _=> True):=fun x y u _ _=> lessInt_any u x y
section
variable {c : CrewC} {mx mq n : Nat} {S : Shop} {Q : ByteArray -> Prop} {D : CrewD} {w w' : World}
theorem CrewW.kept (h:CrewW c mx mq n D w) (k:K_ w w'):CrewW c mx mq n D w':=CrewM.kept h k
theorem CrewI.kept (h:CrewI c mx mq S Q D w) (k:K_ w w'):CrewI c mx mq S Q D w':= ⟨h.mem.kept k,h.bs,h.run,h.pl,h.loc,h.sn⟩
theorem CrewW.offH (h:CrewW c mx mq n D w):HeapM w c.cb 3 c.wz.heap.size 145 1 (fun x=> [.pointer (some ⟨D.loc x,0,none⟩)]) (.func (.func 65) #[] #[]) D.oF D.on D.oa D.oc:=CrewM.heap h (i:=1) rfl h.c4 (by omega) (fun _ u hu=> by rcases List.mem_singleton.1 hu;rfl) (fun _=> rfl)
theorem CrewW.sptH (h:CrewW c mx mq n D w):HeapM w c.cb 5 c.wz.heap.size 145 1 (fun x=> [.pointer (some ⟨D.loc x,0,none⟩)]) (.func (.func 66) #[] #[]) D.sF D.sn D.sa D.sc:=CrewM.heap h (i:=2) rfl h.c6 (by omega) (fun _ u hu=> by rcases List.mem_singleton.1 hu;rfl) (fun _=> rfl)
theorem CrewW.endH (h:CrewW c mx mq n D w):HeapM w c.cb 7 c.wz.heap.size 147 7 (effC D.loc) (.func (.func 67) #[] #[]) D.eF D.en D.xa D.xc:=CrewM.heap h (i:=3) rfl h.c8 (by omega) (eff_one' _) (fun _=> rfl)
theorem CrewW.freeH (h:CrewW c mx mq n D w):HeapM w c.cb 9 c.wz.heap.size 3 1 (fun x:Nat=> [.int .i64 (x:Int)]) (.func (.func 68) #[] #[]) D.fF D.fn D.fa D.fc:=CrewM.heap h (i:=4) rfl h.c10 (by omega) (fun _ u hu=> by rcases List.mem_singleton.1 hu;rfl) (fun _=> rfl)
theorem CrewW.offT (h:CrewW c mx mq n D w) {oF:Nat->ByteArray} {on:Nat} {oa:Option Addr} {oc:Nat} {fn:Value} (hM:HeapM w' c.cb 3 c.wz.heap.size 145 1 (fun x=> [.pointer (some ⟨D.loc x,0,none⟩)]) fn oF on oa oc) (hT:ToH w w' c.cb 3 D.oa D.on D.oc oa on oc):CrewW c mx mq n { D with oF:=oF,on:=on,oa:=oa,oc:=oc } w':=CrewM.heapTurn h (i:=1) rfl hM hT
theorem CrewW.sptT (h:CrewW c mx mq n D w) {sF:Nat->ByteArray} {sn:Nat} {sa:Option Addr} {sc:Nat} {fn:Value} (hM:HeapM w' c.cb 5 c.wz.heap.size 145 1 (fun x=> [.pointer (some ⟨D.loc x,0,none⟩)]) fn sF sn sa sc) (hT:ToH w w' c.cb 5 D.sa D.sn D.sc sa sn sc):CrewW c mx mq n { D with sF:=sF,sn:=sn,sa:=sa,sc:=sc } w':=CrewM.heapTurn h (i:=2) rfl hM hT
theorem CrewW.endT (h:CrewW c mx mq n D w) {eF:Nat->EffX} {en:Nat} {xa:Option Addr} {xc:Nat} {fn:Value} (hM:HeapM w' c.cb 7 c.wz.heap.size 147 7 (effC D.loc) fn eF en xa xc) (hT:ToH w w' c.cb 7 D.xa D.en D.xc xa en xc):CrewW c mx mq n { D with eF:=eF,en:=en,xa:=xa,xc:=xc } w':=CrewM.heapTurn h (i:=3) rfl hM hT
theorem CrewW.freeT (h:CrewW c mx mq n D w) {fF:Nat->Nat} {fn:Nat} {fa:Option Addr} {fc:Nat} {fv:Value} (hM:HeapM w' c.cb 9 c.wz.heap.size 3 1 (fun x:Nat=> [.int .i64 (x:Int)]) fv fF fn fa fc) (hT:ToH w w' c.cb 9 D.fa D.fn D.fc fa fn fc):CrewW c mx mq n { D with fF:=fF,fn:=fn,fa:=fa,fc:=fc } w':=CrewM.heapTurn h (i:=4) rfl hM hT
theorem CrewW.causT (h:CrewW c mx mq n D w) {mq':Nat} {g:ByteArray->Option Int} (k:But (fun x=> x=c.qb) w w') (hc:CausM w' c.qb mq' g):CrewW c mx mq' n { D with g:=g } w':=CrewM.causTurn h k hc
theorem CrewI.task (h:CrewI c mx mq S Q D w) {x:ByteArray} {r:Qz} (hx:Qj S.T x=some r): ∃(i:Nat) (t:Zx),D.ts[i]? =some t∧t.r=r∧r.name=x∧D.loc x=t.tb:=by
 rw [<-h.run] at hx
 obtain ⟨h1,h2⟩:=env_mem hx
 obtain ⟨t,ht,rfl⟩:=List.mem_map.1 h1
 obtain ⟨i,hi⟩:=List.getElem?_of_mem ht
 exact ⟨i,t,hi,rfl,h2,by rw [<-h2];exact h.loc t ht⟩
theorem CrewI.okT (h:CrewI c mx mq S Q D w) {P:Nat->Prop} {u:World} (k:But P w u) (hP: ∀x,P x->KB c.cb c.qb (D.rows S.slots.length) x) {x:ByteArray} (hx: (Qj S.T x).isSome=true):OkT (Q_ c.Kj) D.loc x u:=by
 obtain ⟨r,hr⟩:=Option.isSome_iff_exists.1 hx
 obtain ⟨i,t,hi,rfl,rfl,hl⟩:=h.task hr
 have ht:t∈D.ts:=List.mem_of_getElem? hi
 obtain ⟨t1,t2,t3,_⟩:=BM.taskCells h.mem.bm ht
 have hn: ¬P t.tb:=fun e=> (h.mem.bm.oth.nt t ht).1 (hP _ e)
 have hcost:costW (Q_ c.Kj) t.r.name=t.cost:=by
  unfold costW
  rw [(h.mem.bm.act t ht).1]
 rw [OkT,hl,hcost]
 exact ⟨Nat.lt_of_lt_of_le t1 k.size,(k.cell t1 hn).trans t2,(k.cell t1 hn).trans t3⟩
theorem CrewI.okE (h:CrewI c mx mq S Q D w) {P:Nat->Prop} {u:World} (k:But P w u) (hP: ∀x,P x->KB c.cb c.qb (D.rows S.slots.length) x) {x:EffX} (hx: (Qj S.T x.name).isSome=true):OkE D.loc x u:=let h1:=h.okT k hP hx;⟨h1.1,h1.2.1⟩
theorem kb_row {cb qb:Nat} {R:List RowD} {i:Nat} {r:RowD} (h:R[i]? =some r) {v:Value} (hv:r.v=v): ∀x,(x=cb∨v.ownBlock=some x)->KB cb qb R x:=fun x hx=> by
 rcases hx with e | e
 ·exact .inl e
 ·exact .inr (.inr ⟨r,List.mem_of_getElem? h,by rw [hv];exact e⟩)
theorem Rdy.some {W:Acts} {S:Shop} {x:ByteArray} (h:ReadyX W (Qj S.T) x): (Qj S.T x).isSome=true:=by
 obtain ⟨r,hr,_⟩:=h
 rw [hr]
 rfl
theorem CrewI.offIn (h:CrewI c mx mq S Q D w) {x:ByteArray} (hx:MemH D.oF D.on x): (Qj S.T x).isSome=true:=Rdy.some (h.pl.q x ((h.pl.off.mem x).1 hx).1)
theorem CrewI.sptIn (h:CrewI c mx mq S Q D w) {x:ByteArray} (hx:MemH D.sF D.sn x): (Qj S.T x).isSome=true:=Rdy.some (h.pl.q x ((h.pl.spt.mem x).1 hx).1)
theorem BzE.name {W:Acts} {wk:Nat} {S:Shop} (hs:Sane8 W wk S) {e:EffX} (h:BzE W S e):Bz S e.name:=by
 obtain ⟨k,x,hk,rfl⟩:=h
 obtain ⟨t,c,e⟩:=hs.eff hk
 exact ⟨k,x,hk,by rw [e]⟩
theorem CrewI.endIn (h:CrewI c mx mq S Q D w) {x:EffX} (hx:MemH D.eF D.en x): (Qj S.T x.name).isSome=true:=Rdy.some (h.pl.q _ (h.pl.bq _ (BzE.name h.pl.sane ((h.pl.ends.mem x).1 hx))).1)
theorem inj_len {α:Type} {f:Nat->α} {n:Nat} {l:List α} (hi:InjH f n) (hm: ∀i,i < n->f i∈l):n<=l.length:=by
 have h1:=List.Nodup.length_le_of_subset (l₁:= (List.range n).map f) (l₂:=l) (by
  rw [List.Nodup,List.pairwise_map,List.pairwise_iff_getElem]
  intro i j h1 h2 hij e
  simp only [List.getElem_range] at e
  rw [List.length_range] at h1 h2
  exact absurd (hi i j h1 h2 e) (by omega)) (fun x hx=> by
  obtain ⟨i,h1,rfl⟩:=List.mem_map.1 hx
  exact hm i (List.mem_range.1 h1))
 simpa using h1
theorem CrewI.names (h:CrewI c mx mq S Q D w) {x:ByteArray} (hx: (Qj S.T x).isSome=true):x∈nsOf D.ts:=by
 obtain ⟨r,hr⟩:=Option.isSome_iff_exists.1 hx
 obtain ⟨i,t,hi,rfl,rfl,_⟩:=h.task hr
 exact List.mem_map.2 ⟨t,List.mem_of_getElem? hi,rfl⟩
theorem CrewI.lens (h:CrewI c mx mq S Q D w) (hw:c.Kj.length<=60):D.ts.length<=60∧D.on<=60∧D.sn<=60∧D.en<=c.wk∧D.fn<=c.wk:=by
 have hl:=h.mem.bm.len hw
 have hn: (nsOf D.ts).length=D.ts.length:=by simp [nsOf]
 have h1:=inj_len h.pl.off.inj (l:=nsOf D.ts) (fun i hi=> h.names (h.offIn ⟨i,hi,rfl⟩))
 have h2:=inj_len h.pl.spt.inj (l:=nsOf D.ts) (fun i hi=> h.names (h.sptIn ⟨i,hi,rfl⟩))
 have hb:=h.pl.sane.len
 have h3:=inj_len h.pl.ends.inj (l:=S.busy.map fun o=> match o with | some x=> effAt (Q_ c.Kj) S.slots S.back x.slot | none=> ⟨0,0,ByteArray.empty,0,0,0⟩) (fun i hi=> by
  obtain ⟨k,x,hk,e⟩:= (h.pl.ends.mem _).1 ⟨i,hi,rfl⟩
  exact List.mem_map.2 ⟨some x,List.mem_of_getElem? hk,e.symm⟩)
 have h4:=inj_len h.pl.free.inj (l:=List.range S.busy.length) (fun i hi=> by
  have:= (h.pl.free.mem _).1 ⟨i,hi,rfl⟩
  exact List.mem_range.2 (List.getElem?_eq_some_iff.1 this).1)
 simp only [List.length_map,List.length_range] at h3 h4
 omega
end
open Go.RowKit Go.Shelf
attribute [local go_sem] Oper.semAt_some
section
variable {P : Program} {ops : Array Oper} {Q : Exit -> Act -> World -> Prop} {l m : Nat}
theorem region_roundZ {id:Nat} {a:Act} {w:World} (hm:P.follows .mixedOrders=true) (hd:noDefer ops=true) (hQ: ¬LetsOut Q) (S:World->Prop) (Z:List Nat) (hS:S w.drew)
  (h:S w.drew->UpZ P .any ops Q S Z ops.size (Array.replicate ops.size false) a w.drew): (Code.region id ops true).wpIn (Fence.wide.inRound l) m P Q a w:=
 wpIn_region_any hm (any_round hQ (noDefer_at hd) _ _ _ _ (UpZ.any _ _ _ _ (h hS)))
end
theorem But.keeps {P:Nat->Prop} {w w':World} (k:But P w w') {B:Nat} (hP: ∀b,P b->b < B∨∃t,TypeAt w b t):KeepsFrom B w w':= ⟨k.size,fun b o hB hb hc=> by
 by_cases e:P b
 ·rcases hP b e with h | ⟨t,h⟩
  ·omega
  ·have:=type_cells h hb
   rw [hc] at this
   cases this
 ·exact (k.block b (heap_lt hb) e).trans hb⟩
section
variable {Kj : List Qq} {wz w w' : World} {cb qb mq : Nat} {g : ByteArray -> Option Int} {R : List RowD} {ps : List (Nat × ByteArray)} {bb : Nat} {a : Option Addr} {cap : Nat} {rd : Option Addr} {rn rc mb mx : Nat} {ts : List Zx} {d : Option Addr} {dc : Nat} {f : ByteArray -> Value} {ws : ByteArray -> List Nat}
theorem KB.type (h:CrewM Kj wz w cb qb mq g R ps bb a cap rd rn rc mb mx ts d dc f ws) {x:Nat} (hx:KB cb qb R x):x=qb∨∃t,TypeAt w x t:=by
 rcases hx with rfl | rfl | ⟨r,hr,e⟩
 ·exact .inr ⟨_,h.row.type⟩
 ·exact .inl rfl
 ·exact .inr ⟨_,Yz (h.rows r hr).2.1 e⟩
theorem CrewM.calm (h:CrewM Kj wz w cb qb mq g R ps bb a cap rd rn rc mb mx ts d dc f ws) {l:Nat} {o:Obj} (o':Obj) (hz:wz.heap.size<=l) (hq:qb < l) (hm:mb < l) (ho:w.heap[l]? =some o) (hn:o.isCells=false):CrewM Kj wz (w.putObj l o') cb qb mq g R ps bb a cap rd rn rc mb mx ts d dc f ws:=by
 have k:But (fun b=> b=l) w (w.putObj l o'):= ⟨rfl,rfl,rfl,by rw [World.putObj_size];exact Nat.le_refl _,fun b _ e=> World.putObj_heap_other e⟩
 have nt: ∀b,b=l->∀t,¬TypeAt w b t:=fun b e t ht=> by
  have:=type_cells ht (by rw [e];exact ho)
  rw [hn] at this
  cases this
 have hb:=h.bm.block (S:=fun b=> b=l) (fun (e:mb=l)=> by omega) nt
 have nK: ∀x,KB cb qb R x->¬x=l:=fun x hx e=> by
  rcases KB.type h hx with e2 | ⟨t,ht⟩
  ·omega
  ·exact nt x e t ht
 have hl:=h.row.lt
 have nb:=nK cb (.inl rfl)
 have h1:=h.bm.no.but k (fun b e=> by rw [e];exact hz) hb.1 hb.2.1 hb.2.2.1 hb.2.2.2.1 hb.2.2.2.2 (fun _ _=> id)
 have hO:=h.bm.oth
 exact ⟨h1.as ⟨Nat.le_refl _,fun x hx=> by show x < (w.putObj l o').heap.size;rw [World.putObj_size];exact hO.lt x hx,fun _ _=> rfl,hO.nb,hO.nm,hO.nt,hO.nf,hO.has⟩ h.bm.gi,k.row h.row nb,(k.cell hl nb).trans h.c0,(k.cell hl nb).trans h.c2,(k.cell hl nb).trans h.c4,(k.cell hl nb).trans h.c6,(k.cell hl nb).trans h.c8,(k.cell hl nb).trans h.c10,h.caus.but k (nK _ (.inr (.inl rfl))),h.low,h.qlow,fun r hr=> ⟨(k.cell hl nb).trans (h.rows r hr).1,k.owns (h.rows r hr).2.1 (fun x hx=> nK x (.inr (.inr ⟨r,hr,hx⟩))),(h.rows r hr).2.2⟩,h.ros,h.rod,h.sep⟩
end
theorem CrewI.calm {c:CrewC} {mx mq:Nat} {S:Shop} {Q:ByteArray->Prop} {D:CrewD} {w:World} (h:CrewI c mx mq S Q D w) {l:Nat} {o:Obj} (o':Obj) (hz:c.wz.heap.size<=l) (hq:c.qb < l) (hm:c.mb < l) (ho:w.heap[l]? =some o) (hn:o.isCells=false):CrewI c mx mq S Q D (w.putObj l o'):= ⟨CrewM.calm h.mem o' hz hq hm ho hn,h.bs,h.run,h.pl,h.loc,h.sn⟩
def QAt (W:Acts) (S:Shop) (Q:ByteArray->Prop) (ns:List ByteArray) (i:Nat) (n:ByteArray):Prop:=Q n∨(Rdy W S n∧n∈ns.take i)
theorem qat_same {W:Acts} {S:Shop} {Q:ByteArray->Prop} {ns:List ByteArray} {i:Nat} (hi:i < ns.length) (h:QAt W S Q ns i ns[i]∨¬Rdy W S ns[i]) (n:ByteArray):QAt W S Q ns i n↔QAt W S Q ns (i+1) n:=by
 unfold QAt
 rw [List.take_succ_eq_append_getElem hi]
 constructor
 ·rintro (h1 | ⟨h1,h2⟩)
  ·exact .inl h1
  ·exact .inr ⟨h1,List.mem_append.2 (.inl h2)⟩
 ·rintro (h1 | ⟨h1,h2⟩)
  ·exact .inl h1
  ·rcases List.mem_append.1 h2 with h2 | h2
   ·exact .inr ⟨h1,h2⟩
   ·rw [List.mem_singleton.1 h2] at h1⊢
    rcases h with h | h
    ·exact h
    ·exact absurd h1 h
theorem qat_more {W:Acts} {S:Shop} {Q:ByteArray->Prop} {ns:List ByteArray} {i:Nat} (hi:i < ns.length) (h:Rdy W S ns[i]) (n:ByteArray): (n=ns[i]∨QAt W S Q ns i n)↔QAt W S Q ns (i+1) n:=by
 unfold QAt
 rw [List.take_succ_eq_append_getElem hi]
 constructor
 ·rintro (rfl | h1 | ⟨h1,h2⟩)
  ·exact .inr ⟨h,List.mem_append.2 (.inr (List.mem_singleton.2 rfl))⟩
  ·exact .inl h1
  ·exact .inr ⟨h1,List.mem_append.2 (.inl h2)⟩
 ·rintro (h1 | ⟨h1,h2⟩)
  ·exact .inr (.inl h1)
  ·rcases List.mem_append.1 h2 with h2 | h2
   ·exact .inr (.inr ⟨h1,h2⟩)
   ·exact .inl (List.mem_singleton.1 h2)
theorem But.type {P:Nat->Prop} {w w':World} (k:But P w w') {b:Nat} {t:TypeId} (hb:TypeAt w b t) (hn: ¬P b):TypeAt w' b t:=let ⟨cur,fr,e⟩:=hb;⟨cur,fr,(k.block b (heap_lt e) hn).trans e⟩
def Boxes (cb bx:Nat) (j:Int) (W:World):Prop:=W.cell? ⟨bx,0,none⟩=some (.pointer (some ⟨cb,0,none⟩))∧TypeAt W bx 67∧W.cell? ⟨bx+1,0,none⟩=some (.int .i64 j)∧TypeAt W (bx+1) 3∧bx+1 < W.heap.size
theorem Boxes.but {P:Nat->Prop} {cb bx:Nat} {j:Int} {W W':World} (h:Boxes cb bx j W) (k:But P W W') (h0: ¬P bx) (h1: ¬P (bx+1)):Boxes cb bx j W':=
 ⟨(k.cell (by have:=h.2.2.2.2;omega) h0).trans h.1,k.type h.2.1 h0,(k.cell h.2.2.2.2 h1).trans h.2.2.1,k.type h.2.2.2.1 h1,Nat.lt_of_lt_of_le h.2.2.2.2 k.size⟩
theorem Boxes.kept {cb bx:Nat} {j:Int} {W W':World} (h:Boxes cb bx j W) (k:K_ W W'):Boxes cb bx j W':=h.but (P:=fun _=> False) (.of_kept k) id id
def OffI (c:CrewC) (mx mq:Nat) (S:Shop) (Q:ByteArray->Prop) (D0:CrewD) (bx:Nat) (j:Int) (i:Nat) (W:World):Prop:=
 ∃D,CrewI c mx (mq+i) S (QAt (Q_ c.Kj) S Q (nsOf D0.ts) i) D W∧(D.ts=D0.ts∧D.d=D0.d∧D.dc=D0.dc∧D.en=D0.en)∧Boxes c.cb bx j W
theorem OffI.calm {c:CrewC} {mx mq:Nat} {S:Shop} {Q:ByteArray->Prop} {D0:CrewD} {bx:Nat} {j:Int} {i B:Nat} (hz:c.wz.heap.size<=B) (hq:c.qb < B) (hm:c.mb < B) (hx:bx+1 < B):Calm B (OffI c mx mq S Q D0 bx j i):=by
 constructor
 ·rintro W o hB ⟨D,h1,h2,h3⟩
  exact ⟨D,h1.kept ((K_.refl W).alloc o),h2,h3.kept ((K_.refl W).alloc o)⟩
 ·rintro W l o o' hl ho hn ⟨D,h1,h2,h3⟩
  have k:But (fun b=> b=l) W (W.putObj l o'):= ⟨rfl,rfl,rfl,by rw [World.putObj_size];exact Nat.le_refl _,fun b _ e=> World.putObj_heap_other e⟩
  exact ⟨D,h1.calm o' (by omega) (by omega) (by omega) ho hn,h2,h3.but k (fun e=> by omega) (fun e=> by omega)⟩
theorem OffI.sees {c:CrewC} {mx mq:Nat} {S:Shop} {Q:ByteArray->Prop} {D0:CrewD} {bx:Nat} {j:Int} {i:Nat} {W:World} (h:OffI c mx mq S Q D0 bx j i W) (hi:i < (nsOf D0.ts).length):
  (SeesV D0.d (tbOf D0.ts) i W∧Rdy (Q_ c.Kj) S (nsOf D0.ts)[i])∨(SeesN D0.d (tbOf D0.ts) i W∧¬Rdy (Q_ c.Kj) S (nsOf D0.ts)[i]):=by
 obtain ⟨⟨g,loc,es,ea,ec,oF,on,oa,oc,sF,sn,sa,sc,eF,en,xa,xc,fF,fn,fa,fc,ts,d,dc,f,ws⟩,h1,⟨e1,e2,e3,_⟩,_⟩:=h
 dsimp only at e1 e2 e3
 subst e1 e2 e3
 have hi':i < D0.ts.length:=by simpa [nsOf] using hi
 have hn: (nsOf D0.ts)[i]=D0.ts[i].r.name:=by simp [nsOf]
 have he:Qj S.T (D0.ts[i]).r.name=some (D0.ts[i]).r:=by
  rw [<-h1.run]
  exact asc_env h1.mem.bm.asc (List.mem_map_of_mem (List.getElem_mem hi'))
 have hs:=h1.mem.bm.sees h1.bs hi'
 rw [hn]
 have hr:Qk D0.ts=S.T:=h1.run
 simp only [hr] at hs
 rcases hs with ⟨a1,a2⟩ | ⟨a1,a2⟩
 ·exact .inl ⟨a1,_,he,a2⟩
 ·refine .inr ⟨a1,fun ⟨r,g1,g2⟩=> a2 ?_⟩
  rw [he] at g1
  cases g1
  exact g2
theorem OffI.task {c:CrewC} {mx mq:Nat} {S:Shop} {Q:ByteArray->Prop} {D0:CrewD} {bx:Nat} {j:Int} {i:Nat} {W:World} (h:OffI c mx mq S Q D0 bx j i W) (hi:i < (nsOf D0.ts).length):
  ∃(D:CrewD) (t:Zx),CrewI c mx (mq+i) S (QAt (Q_ c.Kj) S Q (nsOf D0.ts) i) D W∧(D.ts=D0.ts∧D.d=D0.d∧D.dc=D0.dc∧D.en=D0.en)∧Boxes c.cb bx j W∧t∈D.ts∧t.tb=tbOf D0.ts i∧t.r.name= (nsOf D0.ts)[i]∧D.loc t.r.name=t.tb∧Qj S.T t.r.name=some t.r:=by
 obtain ⟨D,h1,⟨e1,e2,e3,e4⟩,h3⟩:=h
 have hi':i < D0.ts.length:=by simpa [nsOf] using hi
 have ht:D0.ts[i]∈D.ts:=by rw [e1];exact List.getElem_mem hi'
 exact ⟨D,D0.ts[i],h1,⟨e1,e2,e3,e4⟩,h3,ht,by simp [tbOf,List.getD,hi'],by simp [nsOf],h1.loc _ ht,by rw [<-h1.run];exact asc_env h1.mem.bm.asc (List.mem_map_of_mem ht)⟩
theorem offer_any {c:CrewC} {mx mq:Nat} {S:Shop} {Q:ByteArray->Prop} {D:CrewD} {w:World} {j:Int} (h:CrewI c mx mq S Q D w) (hw:c.Kj.length<=60) (hok:ActsOk (Q_ c.Kj)) (hj: ∀n,Rdy (Q_ c.Kj) S n->¬Q n->S.cause n=j) (hmq:mq<=900000):
  Calls Tryz.prog 70 #[.pointer (some ⟨c.cb,0,none⟩),.int .i64 j] w fun e w'=> e= .returned (.tuple #[])∧∃D',CrewI c mx (mq+60) S (Rdy (Q_ c.Kj) S) D' w'∧D'.ts=D.ts∧D'.en=D.en:=by
 obtain ⟨cb,hcb⟩: ∃cb,cb=c.cb:= ⟨_,rfl⟩
 obtain ⟨bb,hbb⟩: ∃bb,bb=c.bb:= ⟨_,rfl⟩
 have c0:w.cell? ⟨cb,0,none⟩=some (.pointer (some ⟨bb,0,none⟩)):=by rw [hcb,hbb];exact h.mem.c0
 have hcl:cb < w.heap.size:=by rw [hcb];exact h.mem.row.lt
 have hbl:bb < w.heap.size:=by rw [hbb];exact h.mem.bm.row.lt
 have hql:c.qb < w.heap.size:=h.mem.caus.lt
 have hml:c.mb < w.heap.size:=by obtain ⟨N,D,_,hM,_⟩:=h.mem.bm.map;exact hM.lt
 have hzl:c.wz.heap.size<=w.heap.size:=h.mem.bm.kw.size
 have hts:= (h.lens hw).1
 obtain ⟨W0,hW0⟩: ∃W0,(w.alloc (.cells #[.pointer (some ⟨cb,0,none⟩)] 67)).alloc (.cells #[.int .i64 j] 3)=W0:= ⟨_,rfl⟩
 have K0:K_ w W0:=by rw [<-hW0];exact ((K_.refl _).alloc _).alloc _
 have z0:W0.heap.size=w.heap.size+1+1:=by rw [<-hW0];simp
 obtain ⟨q0,_,q1⟩:=box1 (w:=w) (v:= .pointer (some ⟨cb,0,none⟩)) (t:=67) (w1:=W0) (by rw [<-hW0];exact (K_.refl _).alloc _)
 have q23:=box1 (w:=w.alloc (.cells #[.pointer (some ⟨cb,0,none⟩)] 67)) (v:= .int .i64 j) (t:=3) (w1:=W0) (by rw [<-hW0];exact K_.refl _)
 simp only [World.size_alloc] at q23
 obtain ⟨q2,_,q3⟩:=q23
 have c00:= (K0.cell (o:=0) hcl).trans c0
 have c30:W0.cell? ⟨bb,3,none⟩=some (.slice D.d D.ts.length D.dc):=by rw [hbb];exact (h.mem.kept K0).bm.c3
 have h0:OffI c mx mq S Q D w.heap.size j 0 W0:= ⟨D,⟨(h.kept K0).mem,h.bs,h.run,h.pl.congr (fun n=> by unfold QAt;simp),h.loc,h.sn⟩,⟨rfl,rfl,rfl,rfl⟩,by rw [<-hcb];exact q0,q1,q2,q3,by omega⟩
 obtain ⟨dd,hdd⟩: ∃dd,dd=D.d:= ⟨_,rfl⟩
 obtain ⟨dn,hdn⟩: ∃dn,dn=D.ts.length:= ⟨_,rfl⟩
 obtain ⟨ddc,hddc⟩: ∃ddc,ddc=D.dc:= ⟨_,rfl⟩
 have hdl: ∀g,dd=some ⟨g,0,none⟩->g < w.heap.size:=fun g e=> by rw [hdd] at e;exact (h.mem.bm.apart e).1
 rw [<-hdd,<-hdn,<-hddc] at c30
 rw [<-hdn] at hts
 have H0:=Kz h0
 have HCB:=Kz hcb
 have HBB:=Kz hbb
 have HDD:=Kz hdd
 have HDN:=Kz hdn
 have HDC:=Kz hddc
 have HZ:=Kz z0
 have HBS:=Kz h.bs
 have HHJ:=Kz hj
 clear h h0 hcb hbb hdd hdn hddc z0 hj
 refine (callsIn_wide (n:=9)).1 ?_
 rw [<-HCB.out]
 refine callsIn_of_wp_marks Tryz.func70 rfl trivial ?_ rfl
 simp only [Tryz.ntmps70,List.size_toArray,List.length_cons,List.length_nil,Nat.reduceAdd,Nat.reduceSub,Array.replicate_succ,Array.replicate_zero,List.push_toArray,List.append_toArray,List.nil_append,List.cons_append]
 gi_wp2
 clear hW0
 refine loop_looks (ready_looks bb dd dn ddc (tbOf D.ts) (by omega)) rfl (enters_of Tryz.func117 (by kernel_rfl) rfl) (bb_calm (by rw [HZ.out];omega)) c30 (fun _=> rfl)
  (OffI c mx mq S Q D w.heap.size j) (fun _ _=> False) (fun i=> OffI.calm (by rw [HZ.out];omega) (by rw [HZ.out];omega) (by rw [HZ.out];omega) (by rw [HZ.out];omega)) (fun _=> calm_false _) H0.out
  (fun i=> { tmps:= #[.pointer (some ⟨cb,0,none⟩),.int .i64 j,.pointer (some ⟨w.heap.size,0,none⟩),.pointer (some ⟨w.heap.size+1,0,none⟩),.pointer (some ⟨tbOf D.ts i,0,none⟩),undef,undef,.pointer (some ⟨cb,0,none⟩),.pointer (some ⟨cb,0,none⟩),.pointer (some ⟨cb,0,none⟩),.pointer (some ⟨bb,0,none⟩),.func (.func 117) #[.pointer (some ⟨bb,0,none⟩)] #[],.pointer (some ⟨tbOf D.ts i,0,none⟩),undef,undef,undef,undef,undef,undef,undef,undef,undef,undef,undef,undef,undef,undef,undef,undef,undef,undef,undef,undef,undef,undef,undef,undef,undef,undef,undef,undef,undef,undef,undef,undef,undef,undef,undef,undef],defers:=[] })
  ?assign (fun i=> sees_calm (fun g e=> by have:=hdl g e;rw [HZ.out];omega)) ?step ?done ?stop
 case assign=>
  intro l i W K hK
  gi_wp2
  exact hK
 case stop=>
  intro D c W _ h _
  exact h.elim
 case done=>
  rintro De W hD ⟨D1,g1,g2,_⟩ hdef
  have HG:=Kz (g1.calm (.deferred none) (by rw [HZ.out] at hD;omega) (by rw [HZ.out] at hD;omega) (by rw [HZ.out] at hD;omega) hdef rfl)
  have HG2:=Kz g2
  clear g1 g2
  gi_wp2
  refine ⟨by simp,.inl ⟨_,_,rfl,run_takeDeferred hdef, ?_⟩⟩
  refine ⟨_,results_none rfl _ _ _,rfl,D1,⟨CrewM.more HG.out.mem (by omega),HG.out.bs,HG.out.run,HG.out.pl.congr (fun n=> ⟨fun hq=> HG.out.pl.q n hq,fun hr=> .inr ⟨hr, ?_⟩⟩),HG.out.loc,HG.out.sn⟩,HG2.out.1,HG2.out.2.2.2⟩
  rw [List.take_of_length_le (by rw [nsOf,List.length_map,HDN.out];exact Nat.le_refl _),<-HG2.out.1]
  exact HG.out.names (Rdy.some hr)
 case step=>
  intro i W hi0 hI
  have hi:i < (nsOf D.ts).length:=by rw [nsOf,List.length_map,<-HDN.out];exact hi0
  rw [HDD.out]
  rcases hI.sees hi with ⟨hv,hr⟩ | ⟨hn,hr⟩
  rotate_left
  ·obtain ⟨D1,g1,g2,g3⟩:=hI
   exact .inr ⟨hn,D1,⟨CrewM.more g1.mem (by omega),g1.bs,g1.run,g1.pl.congr (qat_same hi (.inr hr)),g1.loc,g1.sn⟩,g2,g3⟩
  refine .inl ⟨hv, ?_⟩
  clear hv hI W
  intro l W _ hI hz
  obtain ⟨D1,t,g1,g2,g3,ht,etb,enm,elc,henv⟩:=hI.task hi
  obtain ⟨tb,htb⟩: ∃tb,tb=tbOf D.ts i:= ⟨_,rfl⟩
  obtain ⟨nm,hnm⟩: ∃nm,nm=t.r.name:= ⟨_,rfl⟩
  obtain ⟨ct1,ct2,_,ct4⟩:=BM.taskCells g1.mem.bm ht
  have htt:TypeAt W t.tb 153:= (g1.mem.bm.task t ht).row.type
  rw [etb,<-htb] at ct1 ct2 ct4 elc htt
  rw [<-hnm] at ct2 enm elc henv
  rw [<-htb]
  have hcd:c.cb < W.heap.size:=g1.mem.row.lt
  have hnz:nm.size<=maxLen:=by
   have hA:= (g1.mem.bm.act t ht).1
   have:= (hok _ _ hA).2.2.1
   rw [hnm];unfold maxLen;omega
  have HSO0:Hid (∀u,K_ W u->u.cell? ⟨w.heap.size,0,none⟩=some (.pointer (some ⟨cb,0,none⟩))∧u.cell? ⟨cb,2,none⟩=some (.map (some c.qb))∧u.cell? ⟨tb,0,none⟩=some (.string nm)∧(Instr.lookup 130 (.map (some c.qb)) (.string nm) true).run Tryz.prog u= .ok (.tuple #[.int .i64 (Option.getD (D1.g nm) 0),.bool (Option.isSome (D1.g nm))]) u∧u.cell? ⟨w.heap.size+1,0,none⟩=some (.int .i64 j)):=fun u k=> ⟨by rw [HCB.out];exact (g3.kept k).1,by rw [HCB.out];exact (g1.kept k).mem.c2,(k.cell ct1).trans ct2,(g1.kept k).mem.caus.look2 hnz,(g3.kept k).2.2.1⟩
  have hGq: (QAt (Q_ c.Kj) S Q (nsOf D.ts) i nm∧D1.g nm=some (S.cause nm))∨(¬QAt (Q_ c.Kj) S Q (nsOf D.ts) i nm∧D1.g nm=none):=by
   by_cases hq:QAt (Q_ c.Kj) S Q (nsOf D.ts) i nm
   ·exact .inl ⟨hq,g1.pl.gy nm hq⟩
   ·exact .inr ⟨hq,g1.pl.gn nm hq⟩
  have HG:=Kz g1
  have HG2:=Kz g2
  have HG3:=Kz g3
  have HT:=Kz ht
  have HTb:=Kz etb
  have HNm:=Kz hnm
  have HEn:=Kz enm
  have HLc:=Kz elc
  have HEv:=Kz henv
  have HR:=Kz hr
  have HTT:=Kz htt
  have HNz:=Kz hnz
  have Hc4:=Kz ct4
  have Hc1:=Kz ct1
  obtain ⟨v,hvis⟩: ∃v,v=t.r.Zj:= ⟨_,rfl⟩
  rw [<-hvis] at Hc4
  have HVis:=Kz hvis
  have hD: ∃d b,D1.g nm=d∧(d.getD 0)= (d.getD 0)∧b=d.isSome:= ⟨_,_,rfl,rfl,rfl⟩
  clear g1 g2 g3 ht etb hnm enm elc henv hr htt hnz ct1 ct2 ct4 hI q0 q1 q2 q3 c00 c30 c0 hvis hD htb
  rcases hGq with ⟨hq,hgv⟩ | ⟨hq,hgv⟩
  ·have HQ:=Kz hq
   have Zz:Hid (∀u,K_ W u->u.cell? ⟨w.heap.size,0,none⟩=some (.pointer (some ⟨cb,0,none⟩))∧u.cell? ⟨cb,2,none⟩=some (.map (some c.qb))∧u.cell? ⟨tb,0,none⟩=some (.string nm)∧(Instr.lookup 130 (.map (some c.qb)) (.string nm) true).run Tryz.prog u= .ok (.tuple #[.int .i64 (S.cause nm),.bool (true)]) u∧u.cell? ⟨w.heap.size+1,0,none⟩=some (.int .i64 j)):=fun u k=> by
    have h:=HSO0.out u k
    rw [hgv] at h
    exact h
   clear hq hgv HSO0
   gi_wp2
   refine region_roundZ (by kernel_rfl) (by kernel_rfl) (fun ⟨_,_,h⟩=> h) (fun u=> u.cell? ⟨w.heap.size,0,none⟩=some (.pointer (some ⟨cb,0,none⟩))∧u.cell? ⟨cb,2,none⟩=some (.map (some c.qb))∧u.cell? ⟨tb,0,none⟩=some (.string nm)∧(Instr.lookup 130 (.map (some c.qb)) (.string nm) true).run Tryz.prog u= .ok (.tuple #[.int .i64 (S.cause nm),.bool (true)]) u∧u.cell? ⟨w.heap.size+1,0,none⟩=some (.int .i64 j)) [] (Zz.out _ (K_.refl W).drew) (fun Z_=> ?_)
   have KD:K_ W W.drew:= (K_.refl W).drew
   generalize hwd:W.drew=wd at Z_ KD⊢
   clear hwd
   refine UpZ.take 0 [] (v:= ?_) (by (simp only [List.getElem?_toArray,List.getElem?_cons_zero];rfl)) (by kernel_rfl) (by kernel_rfl) (by kernel_rfl) (by kernel_rfl) (by exact fun _ _ _ h=> h) (Or.inl ⟨by rfl, ?_⟩) Z_ ?_
   rotate_left
   ·intro u hu
    obtain ⟨hu1,hu2,hu3,hu4,hu5⟩:=hu
    go_simp
    try with_reducible rfl
   try simp only [Act.put,upA,upB,upC]
   refine UpZ.take 1 [] (v:= ?_) (by (simp only [List.getElem?_toArray,List.getElem?_cons_succ,List.getElem?_cons_zero];rfl)) (by kernel_rfl) (by kernel_rfl) (by kernel_rfl) (by kernel_rfl) (by exact fun _ _ _ h=> h) (Or.inl ⟨by rfl, ?_⟩) Z_ ?_
   rotate_left
   ·intro u hu
    obtain ⟨hu1,hu2,hu3,hu4,hu5⟩:=hu
    go_simp
    try with_reducible rfl
   try simp only [Act.put,upA,upB,upC]
   refine UpZ.take 2 [] (v:= ?_) (by (simp only [List.getElem?_toArray,List.getElem?_cons_succ,List.getElem?_cons_zero];rfl)) (by kernel_rfl) (by kernel_rfl) (by kernel_rfl) (by kernel_rfl) (by exact fun _ _ _ h=> h) (Or.inl ⟨by rfl, ?_⟩) Z_ ?_
   rotate_left
   ·intro u hu
    obtain ⟨hu1,hu2,hu3,hu4,hu5⟩:=hu
    go_simp
    try with_reducible rfl
   try simp only [Act.put,upA,upB,upC]
   refine UpZ.take 3 [] (v:= ?_) (by (simp only [List.getElem?_toArray,List.getElem?_cons_succ,List.getElem?_cons_zero];rfl)) (by kernel_rfl) (by kernel_rfl) (by kernel_rfl) (by kernel_rfl) (by exact fun _ _ _ h=> h) (Or.inl ⟨by rfl, ?_⟩) Z_ ?_
   rotate_left
   ·intro u hu
    obtain ⟨hu1,hu2,hu3,hu4,hu5⟩:=hu
    go_simp
    try with_reducible rfl
   try simp only [Act.put,upA,upB,upC]
   refine UpZ.take 4 [] (v:= ?_) (by (simp only [List.getElem?_toArray,List.getElem?_cons_succ,List.getElem?_cons_zero];rfl)) (by kernel_rfl) (by kernel_rfl) (by kernel_rfl) (by kernel_rfl) (by exact fun _ _ _ h=> h) (Or.inl ⟨by rfl, ?_⟩) Z_ ?_
   rotate_left
   ·intro u hu
    obtain ⟨hu1,hu2,hu3,hu4,hu5⟩:=hu
    go_simp
    try with_reducible rfl
   try simp only [Act.put,upA,upB,upC]
   refine UpZ.take 5 [] (v:= ?_) (by (simp only [List.getElem?_toArray,List.getElem?_cons_succ,List.getElem?_cons_zero];rfl)) (by kernel_rfl) (by kernel_rfl) (by kernel_rfl) (by kernel_rfl) (by exact fun _ _ _ h=> h) (Or.inl ⟨by rfl, ?_⟩) Z_ ?_
   rotate_left
   ·intro u hu
    obtain ⟨hu1,hu2,hu3,hu4,hu5⟩:=hu
    go_simp
    try with_reducible rfl
   try simp only [Act.put,upA,upB,upC]
   refine UpZ.take 6 [] (v:= ?_) (by (simp only [List.getElem?_toArray,List.getElem?_cons_succ,List.getElem?_cons_zero];rfl)) (by kernel_rfl) (by kernel_rfl) (by kernel_rfl) (by kernel_rfl) (by exact fun _ _ _ h=> h) (Or.inl ⟨by rfl, ?_⟩) Z_ ?_
   rotate_left
   ·intro u hu
    obtain ⟨hu1,hu2,hu3,hu4,hu5⟩:=hu
    go_simp
    try with_reducible rfl
   try simp only [Act.put,upA,upB,upC]
   refine UpZ.take 7 [] (v:= ?_) (by (simp only [List.getElem?_toArray,List.getElem?_cons_succ,List.getElem?_cons_zero];rfl)) (by kernel_rfl) (by kernel_rfl) (by kernel_rfl) (by kernel_rfl) (by exact fun _ _ _ h=> h) (Or.inl ⟨by rfl, ?_⟩) Z_ ?_
   rotate_left
   ·intro u hu
    obtain ⟨hu1,hu2,hu3,hu4,hu5⟩:=hu
    go_simp
    try with_reducible rfl
   try simp only [Act.put,upA,upB,upC]
   refine UpZ.take 8 [] (v:= ?_) (by (simp only [List.getElem?_toArray,List.getElem?_cons_succ,List.getElem?_cons_zero];rfl)) (by kernel_rfl) (by kernel_rfl) (by kernel_rfl) (by kernel_rfl) (by exact fun _ _ _ h=> h) (Or.inl ⟨by rfl, ?_⟩) Z_ ?_
   rotate_left
   ·intro u hu
    obtain ⟨hu1,hu2,hu3,hu4,hu5⟩:=hu
    go_simp
    try with_reducible rfl
   try simp only [Act.put,upA,upB,upC]
   refine UpZ.take 9 [] (v:= ?_) (by (simp only [List.getElem?_toArray,List.getElem?_cons_succ,List.getElem?_cons_zero];rfl)) (by kernel_rfl) (by kernel_rfl) (by kernel_rfl) (by kernel_rfl) (by exact fun _ _ _ h=> h) (Or.inl ⟨by rfl, ?_⟩) Z_ ?_
   rotate_left
   ·intro u hu
    obtain ⟨hu1,hu2,hu3,hu4,hu5⟩:=hu
    go_simp
    try with_reducible rfl
   try simp only [Act.put,upA,upB,upC]
   refine UpZ.take 10 [] (v:= ?_) (by (simp only [List.getElem?_toArray,List.getElem?_cons_succ,List.getElem?_cons_zero];rfl)) (by kernel_rfl) (by kernel_rfl) (by kernel_rfl) (by kernel_rfl) (by exact fun _ _ _ h=> h) (Or.inl ⟨by rfl, ?_⟩) Z_ ?_
   rotate_left
   ·intro u hu
    obtain ⟨hu1,hu2,hu3,hu4,hu5⟩:=hu
    go_simp
    try with_reducible rfl
   try simp only [Act.put,upA,upB,upC]
   refine UpZ.take 11 [] (v:= ?_) (by (simp only [List.getElem?_toArray,List.getElem?_cons_succ,List.getElem?_cons_zero];rfl)) (by kernel_rfl) (by kernel_rfl) (by kernel_rfl) (by kernel_rfl) (by exact fun _ _ _ h=> h) (Or.inl ⟨by rfl, ?_⟩) Z_ ?_
   rotate_left
   ·intro u hu
    obtain ⟨hu1,hu2,hu3,hu4,hu5⟩:=hu
    go_simp
    try with_reducible rfl
   try simp only [Act.put,upA,upB,upC]
   refine UpZ.take 12 [] (v:= ?_) (by (simp only [List.getElem?_toArray,List.getElem?_cons_succ,List.getElem?_cons_zero];rfl)) (by kernel_rfl) (by kernel_rfl) (by kernel_rfl) (by kernel_rfl) (by exact fun _ _ _ h=> h) (Or.inl ⟨by rfl, ?_⟩) Z_ ?_
   rotate_left
   ·intro u hu
    obtain ⟨hu1,hu2,hu3,hu4,hu5⟩:=hu
    go_simp
    try with_reducible rfl
   try simp only [Act.put,upA,upB,upC]
   refine UpZ.take 13 [] (v:= ?_) (by (simp only [List.getElem?_toArray,List.getElem?_cons_succ,List.getElem?_cons_zero];rfl)) (by kernel_rfl) (by kernel_rfl) (by kernel_rfl) (by kernel_rfl) (by exact fun _ _ _ h=> h) (Or.inl ⟨by rfl, ?_⟩) Z_ ?_
   rotate_left
   ·intro u hu
    obtain ⟨hu1,hu2,hu3,hu4,hu5⟩:=hu
    go_simp
    try with_reducible rfl
   try simp only [Act.put,upA,upB,upC]
   refine UpZ.take 14 [] (v:= ?_) (by (simp only [List.getElem?_toArray,List.getElem?_cons_succ,List.getElem?_cons_zero];rfl)) (by kernel_rfl) (by kernel_rfl) (by kernel_rfl) (by kernel_rfl) (by exact fun _ _ _ h=> h) (Or.inl ⟨by rfl, ?_⟩) Z_ ?_
   rotate_left
   ·intro u hu
    obtain ⟨hu1,hu2,hu3,hu4,hu5⟩:=hu
    go_simp
    try with_reducible rfl
   try simp only [Act.put,upA,upB,upC]
   refine UpZ.done (by kernel_rfl) ?_
   gi_wp2
   exact ⟨keeps_of_kept KD _,D1,⟨CrewM.more (HG.out.kept KD).mem (by omega),HG.out.bs,HG.out.run,HG.out.pl.congr (qat_same hi (.inl (by rw [<-HEn.out];exact HQ.out))),HG.out.loc,HG.out.sn⟩,HG2.out,HG3.out.kept KD⟩
  ·have HQ:=Kz hq
   have Zz:Hid (∀u,K_ W u->u.cell? ⟨w.heap.size,0,none⟩=some (.pointer (some ⟨cb,0,none⟩))∧u.cell? ⟨cb,2,none⟩=some (.map (some c.qb))∧u.cell? ⟨tb,0,none⟩=some (.string nm)∧(Instr.lookup 130 (.map (some c.qb)) (.string nm) true).run Tryz.prog u= .ok (.tuple #[.int .i64 (0),.bool (false)]) u∧u.cell? ⟨w.heap.size+1,0,none⟩=some (.int .i64 j)):=fun u k=> by
    have h:=HSO0.out u k
    rw [hgv] at h
    exact h
   clear hq hgv HSO0
   gi_wp2
   refine region_roundZ (by kernel_rfl) (by kernel_rfl) (fun ⟨_,_,h⟩=> h) (fun u=> u.cell? ⟨w.heap.size,0,none⟩=some (.pointer (some ⟨cb,0,none⟩))∧u.cell? ⟨cb,2,none⟩=some (.map (some c.qb))∧u.cell? ⟨tb,0,none⟩=some (.string nm)∧(Instr.lookup 130 (.map (some c.qb)) (.string nm) true).run Tryz.prog u= .ok (.tuple #[.int .i64 (0),.bool (false)]) u∧u.cell? ⟨w.heap.size+1,0,none⟩=some (.int .i64 j)) [] (Zz.out _ (K_.refl W).drew) (fun Z_=> ?_)
   have KD:K_ W W.drew:= (K_.refl W).drew
   generalize hwd:W.drew=wd at Z_ KD⊢
   clear hwd
   refine UpZ.take 0 [] (v:= ?_) (by (simp only [List.getElem?_toArray,List.getElem?_cons_zero];rfl)) (by kernel_rfl) (by kernel_rfl) (by kernel_rfl) (by kernel_rfl) (by exact fun _ _ _ h=> h) (Or.inl ⟨by rfl, ?_⟩) Z_ ?_
   rotate_left
   ·intro u hu
    obtain ⟨hu1,hu2,hu3,hu4,hu5⟩:=hu
    go_simp
    try with_reducible rfl
   try simp only [Act.put,upA,upB,upC]
   refine UpZ.take 1 [] (v:= ?_) (by (simp only [List.getElem?_toArray,List.getElem?_cons_succ,List.getElem?_cons_zero];rfl)) (by kernel_rfl) (by kernel_rfl) (by kernel_rfl) (by kernel_rfl) (by exact fun _ _ _ h=> h) (Or.inl ⟨by rfl, ?_⟩) Z_ ?_
   rotate_left
   ·intro u hu
    obtain ⟨hu1,hu2,hu3,hu4,hu5⟩:=hu
    go_simp
    try with_reducible rfl
   try simp only [Act.put,upA,upB,upC]
   refine UpZ.take 2 [] (v:= ?_) (by (simp only [List.getElem?_toArray,List.getElem?_cons_succ,List.getElem?_cons_zero];rfl)) (by kernel_rfl) (by kernel_rfl) (by kernel_rfl) (by kernel_rfl) (by exact fun _ _ _ h=> h) (Or.inl ⟨by rfl, ?_⟩) Z_ ?_
   rotate_left
   ·intro u hu
    obtain ⟨hu1,hu2,hu3,hu4,hu5⟩:=hu
    go_simp
    try with_reducible rfl
   try simp only [Act.put,upA,upB,upC]
   refine UpZ.take 3 [] (v:= ?_) (by (simp only [List.getElem?_toArray,List.getElem?_cons_succ,List.getElem?_cons_zero];rfl)) (by kernel_rfl) (by kernel_rfl) (by kernel_rfl) (by kernel_rfl) (by exact fun _ _ _ h=> h) (Or.inl ⟨by rfl, ?_⟩) Z_ ?_
   rotate_left
   ·intro u hu
    obtain ⟨hu1,hu2,hu3,hu4,hu5⟩:=hu
    go_simp
    try with_reducible rfl
   try simp only [Act.put,upA,upB,upC]
   refine UpZ.take 4 [] (v:= ?_) (by (simp only [List.getElem?_toArray,List.getElem?_cons_succ,List.getElem?_cons_zero];rfl)) (by kernel_rfl) (by kernel_rfl) (by kernel_rfl) (by kernel_rfl) (by exact fun _ _ _ h=> h) (Or.inl ⟨by rfl, ?_⟩) Z_ ?_
   rotate_left
   ·intro u hu
    obtain ⟨hu1,hu2,hu3,hu4,hu5⟩:=hu
    go_simp
    try with_reducible rfl
   try simp only [Act.put,upA,upB,upC]
   refine UpZ.take 5 [] (v:= ?_) (by (simp only [List.getElem?_toArray,List.getElem?_cons_succ,List.getElem?_cons_zero];rfl)) (by kernel_rfl) (by kernel_rfl) (by kernel_rfl) (by kernel_rfl) (by exact fun _ _ _ h=> h) (Or.inl ⟨by rfl, ?_⟩) Z_ ?_
   rotate_left
   ·intro u hu
    obtain ⟨hu1,hu2,hu3,hu4,hu5⟩:=hu
    go_simp
    try with_reducible rfl
   try simp only [Act.put,upA,upB,upC]
   refine UpZ.take 6 [] (v:= ?_) (by (simp only [List.getElem?_toArray,List.getElem?_cons_succ,List.getElem?_cons_zero];rfl)) (by kernel_rfl) (by kernel_rfl) (by kernel_rfl) (by kernel_rfl) (by exact fun _ _ _ h=> h) (Or.inl ⟨by rfl, ?_⟩) Z_ ?_
   rotate_left
   ·intro u hu
    obtain ⟨hu1,hu2,hu3,hu4,hu5⟩:=hu
    go_simp
    try with_reducible rfl
   try simp only [Act.put,upA,upB,upC]
   refine UpZ.take 7 [] (v:= ?_) (by (simp only [List.getElem?_toArray,List.getElem?_cons_succ,List.getElem?_cons_zero];rfl)) (by kernel_rfl) (by kernel_rfl) (by kernel_rfl) (by kernel_rfl) (by exact fun _ _ _ h=> h) (Or.inl ⟨by rfl, ?_⟩) Z_ ?_
   rotate_left
   ·intro u hu
    obtain ⟨hu1,hu2,hu3,hu4,hu5⟩:=hu
    go_simp
    try with_reducible rfl
   try simp only [Act.put,upA,upB,upC]
   refine UpZ.take 8 [] (v:= ?_) (by (simp only [List.getElem?_toArray,List.getElem?_cons_succ,List.getElem?_cons_zero];rfl)) (by kernel_rfl) (by kernel_rfl) (by kernel_rfl) (by kernel_rfl) (by exact fun _ _ _ h=> h) (Or.inl ⟨by rfl, ?_⟩) Z_ ?_
   rotate_left
   ·intro u hu
    obtain ⟨hu1,hu2,hu3,hu4,hu5⟩:=hu
    go_simp
    try with_reducible rfl
   try simp only [Act.put,upA,upB,upC]
   refine UpZ.take 9 [] (v:= ?_) (by (simp only [List.getElem?_toArray,List.getElem?_cons_succ,List.getElem?_cons_zero];rfl)) (by kernel_rfl) (by kernel_rfl) (by kernel_rfl) (by kernel_rfl) (by exact fun _ _ _ h=> h) (Or.inl ⟨by rfl, ?_⟩) Z_ ?_
   rotate_left
   ·intro u hu
    obtain ⟨hu1,hu2,hu3,hu4,hu5⟩:=hu
    go_simp
    try with_reducible rfl
   try simp only [Act.put,upA,upB,upC]
   refine UpZ.take 10 [] (v:= ?_) (by (simp only [List.getElem?_toArray,List.getElem?_cons_succ,List.getElem?_cons_zero];rfl)) (by kernel_rfl) (by kernel_rfl) (by kernel_rfl) (by kernel_rfl) (by exact fun _ _ _ h=> h) (Or.inl ⟨by rfl, ?_⟩) Z_ ?_
   rotate_left
   ·intro u hu
    obtain ⟨hu1,hu2,hu3,hu4,hu5⟩:=hu
    go_simp
    try with_reducible rfl
   try simp only [Act.put,upA,upB,upC]
   refine UpZ.take 11 [] (v:= ?_) (by (simp only [List.getElem?_toArray,List.getElem?_cons_succ,List.getElem?_cons_zero];rfl)) (by kernel_rfl) (by kernel_rfl) (by kernel_rfl) (by kernel_rfl) (by exact fun _ _ _ h=> h) (Or.inl ⟨by rfl, ?_⟩) Z_ ?_
   rotate_left
   ·intro u hu
    obtain ⟨hu1,hu2,hu3,hu4,hu5⟩:=hu
    go_simp
    try with_reducible rfl
   try simp only [Act.put,upA,upB,upC]
   refine UpZ.take 12 [] (v:= ?_) (by (simp only [List.getElem?_toArray,List.getElem?_cons_succ,List.getElem?_cons_zero];rfl)) (by kernel_rfl) (by kernel_rfl) (by kernel_rfl) (by kernel_rfl) (by exact fun _ _ _ h=> h) (Or.inl ⟨by rfl, ?_⟩) Z_ ?_
   rotate_left
   ·intro u hu
    obtain ⟨hu1,hu2,hu3,hu4,hu5⟩:=hu
    go_simp
    try with_reducible rfl
   try simp only [Act.put,upA,upB,upC]
   refine UpZ.take 13 [] (v:= ?_) (by (simp only [List.getElem?_toArray,List.getElem?_cons_succ,List.getElem?_cons_zero];rfl)) (by kernel_rfl) (by kernel_rfl) (by kernel_rfl) (by kernel_rfl) (by exact fun _ _ _ h=> h) (Or.inl ⟨by rfl, ?_⟩) Z_ ?_
   rotate_left
   ·intro u hu
    obtain ⟨hu1,hu2,hu3,hu4,hu5⟩:=hu
    go_simp
    try with_reducible rfl
   try simp only [Act.put,upA,upB,upC]
   refine UpZ.take 14 [] (v:= ?_) (by (simp only [List.getElem?_toArray,List.getElem?_cons_succ,List.getElem?_cons_zero];rfl)) (by kernel_rfl) (by kernel_rfl) (by kernel_rfl) (by kernel_rfl) (by exact fun _ _ _ h=> h) (Or.inl ⟨by rfl, ?_⟩) Z_ ?_
   rotate_left
   ·intro u hu
    obtain ⟨hu1,hu2,hu3,hu4,hu5⟩:=hu
    go_simp
    try with_reducible rfl
   try simp only [Act.put,upA,upB,upC]
   refine UpZ.done (by kernel_rfl) ?_
   gi_wp2
   refine region_round (by kernel_rfl) (by kernel_rfl) (fun ⟨_,_,h⟩=> h) (fun u=> u.cell? ⟨w.heap.size,0,none⟩=some (.pointer (some ⟨cb,0,none⟩))∧u.cell? ⟨cb,2,none⟩=some (.map (some c.qb))∧u.cell? ⟨tb,0,none⟩=some (.string nm)∧(Instr.lookup 130 (.map (some c.qb)) (.string nm) true).run Tryz.prog u= .ok (.tuple #[.int .i64 (0),.bool (false)]) u∧u.cell? ⟨w.heap.size+1,0,none⟩=some (.int .i64 j)) 10 (Zz.out _ KD.drew) (fun Z_=> ?_)
   have KE:K_ W wd.drew:=KD.drew
   generalize hwe:wd.drew=we at Z_ KE⊢
   clear hwe KD
   refine Qx.take 0 [1,2,3,10] (v:= ?_) (by (simp only [List.getElem?_toArray,List.getElem?_cons_zero];rfl)) (by kernel_rfl) (by kernel_rfl) (by kernel_rfl) (by kernel_rfl) (by exact fun _ _ _ h=> h) (Or.inl ⟨by rfl, ?_⟩) Z_ ?_
   rotate_left
   ·intro u hu
    obtain ⟨hu1,hu2,hu3,hu4,hu5⟩:=hu
    go_simp
    try with_reducible rfl
   try simp only [Act.put,upA,upB,upC]
   refine Qx.take 1 [2,3,10] (v:= ?_) (by (simp only [List.getElem?_toArray,List.getElem?_cons_succ,List.getElem?_cons_zero];rfl)) (by kernel_rfl) (by kernel_rfl) (by kernel_rfl) (by kernel_rfl) (by exact fun _ _ _ h=> h) (Or.inl ⟨by rfl, ?_⟩) Z_ ?_
   rotate_left
   ·intro u hu
    obtain ⟨hu1,hu2,hu3,hu4,hu5⟩:=hu
    go_simp
    try with_reducible rfl
   try simp only [Act.put,upA,upB,upC]
   refine Qx.take 2 [3,10] (v:= ?_) (by (simp only [List.getElem?_toArray,List.getElem?_cons_succ,List.getElem?_cons_zero];rfl)) (by kernel_rfl) (by kernel_rfl) (by kernel_rfl) (by kernel_rfl) (by exact fun _ _ _ h=> h) (Or.inl ⟨by rfl, ?_⟩) Z_ ?_
   rotate_left
   ·intro u hu
    obtain ⟨hu1,hu2,hu3,hu4,hu5⟩:=hu
    go_simp
    try with_reducible rfl
   try simp only [Act.put,upA,upB,upC]
   refine Qx.take 3 [10] (v:= ?_) (by (simp only [List.getElem?_toArray,List.getElem?_cons_succ,List.getElem?_cons_zero];rfl)) (by kernel_rfl) (by kernel_rfl) (by kernel_rfl) (by kernel_rfl) (by exact fun _ _ _ h=> h) (Or.inl ⟨by rfl, ?_⟩) Z_ ?_
   rotate_left
   ·intro u hu
    obtain ⟨hu1,hu2,hu3,hu4,hu5⟩:=hu
    go_simp
    try with_reducible rfl
   try simp only [Act.put,upA,upB,upC]
   refine Qx.take 4 [5,6,7,8,10] (v:= ?_) (by (simp only [List.getElem?_toArray,List.getElem?_cons_succ,List.getElem?_cons_zero];rfl)) (by kernel_rfl) (by kernel_rfl) (by kernel_rfl) (by kernel_rfl) (by exact fun _ _ _ h=> h) (Or.inl ⟨by rfl, ?_⟩) Z_ ?_
   rotate_left
   ·intro u hu
    obtain ⟨hu1,hu2,hu3,hu4,hu5⟩:=hu
    go_simp
    try with_reducible rfl
   try simp only [Act.put,upA,upB,upC]
   refine Qx.take 5 [6,7,8,10] (v:= ?_) (by (simp only [List.getElem?_toArray,List.getElem?_cons_succ,List.getElem?_cons_zero];rfl)) (by kernel_rfl) (by kernel_rfl) (by kernel_rfl) (by kernel_rfl) (by exact fun _ _ _ h=> h) (Or.inl ⟨by rfl, ?_⟩) Z_ ?_
   rotate_left
   ·intro u hu
    obtain ⟨hu1,hu2,hu3,hu4,hu5⟩:=hu
    go_simp
    try with_reducible rfl
   try simp only [Act.put,upA,upB,upC]
   refine Qx.take 6 [7,8,10] (v:= ?_) (by (simp only [List.getElem?_toArray,List.getElem?_cons_succ,List.getElem?_cons_zero];rfl)) (by kernel_rfl) (by kernel_rfl) (by kernel_rfl) (by kernel_rfl) (by exact fun _ _ _ h=> h) (Or.inl ⟨by rfl, ?_⟩) Z_ ?_
   rotate_left
   ·intro u hu
    obtain ⟨hu1,hu2,hu3,hu4,hu5⟩:=hu
    go_simp
    try with_reducible rfl
   try simp only [Act.put,upA,upB,upC]
   refine Qx.take 7 [8,10] (v:= ?_) (by (simp only [List.getElem?_toArray,List.getElem?_cons_succ,List.getElem?_cons_zero];rfl)) (by kernel_rfl) (by kernel_rfl) (by kernel_rfl) (by kernel_rfl) (by exact fun _ _ _ h=> h) (Or.inl ⟨by rfl, ?_⟩) Z_ ?_
   rotate_left
   ·intro u hu
    obtain ⟨hu1,hu2,hu3,hu4,hu5⟩:=hu
    go_simp
    try with_reducible rfl
   try simp only [Act.put,upA,upB,upC]
   refine Qx.take 8 [10] (v:= ?_) (by (simp only [List.getElem?_toArray,List.getElem?_cons_succ,List.getElem?_cons_zero];rfl)) (by kernel_rfl) (by kernel_rfl) (by kernel_rfl) (by kernel_rfl) (by exact fun _ _ _ h=> h) (Or.inl ⟨by rfl, ?_⟩) Z_ ?_
   rotate_left
   ·intro u hu
    obtain ⟨hu1,hu2,hu3,hu4,hu5⟩:=hu
    go_simp
    try with_reducible rfl
   try simp only [Act.put,upA,upB,upC]
   refine Qx.take 9 [10] (v:= ?_) (by (simp only [List.getElem?_toArray,List.getElem?_cons_succ,List.getElem?_cons_zero];rfl)) (by kernel_rfl) (by kernel_rfl) (by kernel_rfl) (by kernel_rfl) (by exact fun _ _ _ h=> h) (Or.inl ⟨by rfl, ?_⟩) Z_ ?_
   rotate_left
   ·intro u hu
    obtain ⟨hu1,hu2,hu3,hu4,hu5⟩:=hu
    go_simp
    try with_reducible rfl
   try simp only [Act.put,upA,upB,upC]
   obtain ⟨w5,hrun,hcs5,k5⟩:= (HG.out.kept KE).mem.caus.put HNz.out j (by omega)
   have HCs5:=Kz hcs5
   have HK5:=Kz k5
   clear hcs5 k5
   refine Qx.nx 10 (fun K hK=> ?_)
   go_simp
   refine hK.out _ _ (fun h=> absurd rfl h) ?_
   clear hK K
   try simp only [Act.put,upA,upB,upC]
   refine Qx.dn ?_
   clear hrun Z_
   have HGE:=Kz (HG.out.kept KE)
   have ct5:w5.cell? ⟨tb,5,none⟩=some (.int .i64 v):= (HK5.out.cell (by have:=KE.size;have:=Hc1.out;omega) (HG.out.mem.caus.ne HTT.out)).trans ((KE.cell Hc1.out).trans Hc4.out)
   have HB5:=Kz ((HG3.out.kept KE).but HK5.out (HG.out.mem.caus.ne HG3.out.2.1) (HG.out.mem.caus.ne HG3.out.2.2.2.1))
   have b5:w5.cell? ⟨w.heap.size,0,none⟩=some (.pointer (some ⟨cb,0,none⟩)):=by rw [HCB.out];exact HB5.out.1
   have HW5:Hid (CrewW c mx (mq+i+1) S.slots.length { D1 with g:=putG D1.g nm j } w5):=HGE.out.mem.causT HK5.out HCs5.out
   have hz5:c.wz.heap.size<=w5.heap.size:=HW5.out.bm.kw.size
   have hcj:S.cause nm=j:=HHJ.out nm (by rw [HEn.out];exact HR.out) (fun h=> HQ.out (.inl h))
   have HCJ:=Kz hcj
   have hln:=HGE.out.lens hw
   have HKF:Hid (KeepsFrom W0.heap.size W w5):= (keeps_of_kept KE _).trans (HK5.out.keeps (fun b e=> .inl (by rw [e,HZ.out];omega)))
   have HNI:Hid ((Qj S.T nm).isSome=true):=by show _=_;rw [HEv.out];rfl
   clear hcj KE
   gi_wp2_with fail
   refine ⟨trivial,(CallsIn.inRound l (callsIn_wide.2 (spentT_any w5 ct5))).mono ?_⟩
   rintro e w5' ⟨rfl,hw5⟩
   rw [hw5]
   clear hw5 w5' ct5
   by_cases hv20:v=20
   ·have hvb: (v == 20)=true:=by simpa using hv20
    have HSp:Hid (Sp (Q_ c.Kj) S nm):=by
     obtain ⟨r,g1,g2⟩:Rdy (Q_ c.Kj) S nm:=by rw [HEn.out];exact HR.out
     rw [HEv.out] at g1
     cases g1
     exact ⟨_,HEv.out,g2,by rw [<-HVis.out];exact hv20⟩
    clear hv20
    rw [hvb]
    gi_wp2_with fail
    have hput:=putT_any w5 HW5.out.sptH (named_ahead (Q_ c.Kj) D1.loc) (.inr rfl) nm (fun y u hy k=> HGE.out.okT (P:=KB c.cb c.qb (D1.rows S.slots.length)) ((HK5.out.mono (fun _ _ e=> .inr (.inl e))).trans (k.mono (fun x _ e=> kb_row (i:=2) rfl rfl x e))) (fun _=> id) (by rcases hy with e | hy;rw [e];exact HNI.out;exact HGE.out.sptIn hy)) (by dsimp only;omega) hz5
    dsimp only at hput
    rw [<-HCB.out,HLc.out] at hput
    refine ⟨trivial,(CallsIn.inRound l (callsIn_wide.2 hput)).mono ?_⟩
    rintro e w6 ⟨rfl,a',cap',hM,hT⟩
    rw [HCB.out] at hM hT
    have HW6:Hid (CrewW c mx (mq+i+1) S.slots.length { D1 with g:=putG D1.g nm j,sF:=_,sn:=_,sa:=a',sc:=cap' } w6):=HW5.out.sptT hM hT
    have ho5:=fun b=> Yz (b:=b) HW5.out.sptH.row
    have HKF6:Hid (KeepsFrom W0.heap.size W w6):=HKF.out.trans (hT.but.keeps (fun b e=> .inr (by rcases e with e | e;exact ⟨_,by rw [e];exact HW5.out.row.type⟩;exact ⟨_,ho5 b e⟩)))
    have HB6:Hid (Boxes c.cb w.heap.size j w6):=HB5.out.but hT.but (fun e=> by rcases e with e | e;exact type_ne HB5.out.2.1 HW5.out.row.type (by decide) e;exact type_ne HB5.out.2.1 (ho5 _ e) (by decide) rfl) (fun e=> by rcases e with e | e;exact type_ne HB5.out.2.2.2.1 HW5.out.row.type (by decide) e;exact type_ne HB5.out.2.2.2.1 (ho5 _ e) (by decide) rfl)
    clear hput hM hT ho5 b5
    gi_wp2
    have hpl:= (HGE.out.pl.spentOne HSp.out (by exact HQ.out)).congr (Q':=QAt (Q_ c.Kj) S Q (nsOf D.ts) (i+1)) (fun n=> by rw [<-qat_more hi HR.out n,<-HEn.out])
    rw [HCJ.out] at hpl
    exact ⟨HKF6.out,_,⟨HW6.out,HGE.out.bs,HGE.out.run,hpl,HGE.out.loc,HGE.out.sn⟩,HG2.out,HB6.out⟩
   ·have hvb: (v == 20)=false:=by simpa using hv20
    have HSp:Hid (¬Sp (Q_ c.Kj) S nm):=by
     rintro ⟨r,g1,_,g3⟩
     rw [HEv.out] at g1
     cases g1
     exact hv20 (by rw [HVis.out];exact g3)
    clear hv20
    rw [hvb]
    gi_wp2_with fail
    have hput:=putT_any w5 HW5.out.offH (costs_ahead (Q_ c.Kj) D1.loc) (.inl rfl) nm (fun y u hy k=> HGE.out.okT (P:=KB c.cb c.qb (D1.rows S.slots.length)) ((HK5.out.mono (fun _ _ e=> .inr (.inl e))).trans (k.mono (fun x _ e=> kb_row (i:=1) rfl rfl x e))) (fun _=> id) (by rcases hy with e | hy;rw [e];exact HNI.out;exact HGE.out.offIn hy)) (by dsimp only;omega) hz5
    dsimp only at hput
    rw [<-HCB.out,HLc.out] at hput
    refine ⟨trivial,(CallsIn.inRound l (callsIn_wide.2 hput)).mono ?_⟩
    rintro e w6 ⟨rfl,a',cap',hM,hT⟩
    rw [HCB.out] at hM hT
    have HW6:Hid (CrewW c mx (mq+i+1) S.slots.length { D1 with g:=putG D1.g nm j,oF:=_,on:=_,oa:=a',oc:=cap' } w6):=HW5.out.offT hM hT
    have ho5:=fun b=> Yz (b:=b) HW5.out.offH.row
    have HKF6:Hid (KeepsFrom W0.heap.size W w6):=HKF.out.trans (hT.but.keeps (fun b e=> .inr (by rcases e with e | e;exact ⟨_,by rw [e];exact HW5.out.row.type⟩;exact ⟨_,ho5 b e⟩)))
    have HB6:Hid (Boxes c.cb w.heap.size j w6):=HB5.out.but hT.but (fun e=> by rcases e with e | e;exact type_ne HB5.out.2.1 HW5.out.row.type (by decide) e;exact type_ne HB5.out.2.1 (ho5 _ e) (by decide) rfl) (fun e=> by rcases e with e | e;exact type_ne HB5.out.2.2.2.1 HW5.out.row.type (by decide) e;exact type_ne HB5.out.2.2.2.1 (ho5 _ e) (by decide) rfl)
    clear hput hM hT ho5 b5
    gi_wp2
    have hpl:= (HGE.out.pl.offerOne (by rw [HEn.out];exact HR.out) HSp.out (by exact HQ.out)).congr (Q':=QAt (Q_ c.Kj) S Q (nsOf D.ts) (i+1)) (fun n=> by rw [<-qat_more hi HR.out n,<-HEn.out])
    rw [HCJ.out] at hpl
    exact ⟨HKF6.out,_,⟨HW6.out,HGE.out.bs,HGE.out.run,hpl,HGE.out.loc,HGE.out.sn⟩,HG2.out,HB6.out⟩
theorem flatH_cells {α:Type} {cells cells':α->List Value} {f:Nat->α}: ∀{n:Nat},(∀i,i < n->cells (f i)=cells' (f i))->flatH cells f n=flatH cells' f n
 | 0,_=> rfl
 | n+1,h=> by simp only [flatH];rw [flatH_cells (fun i hi=> h i (by omega)),h n (by omega)]
theorem CrewD.rows_loc {D:CrewD} {n:Nat} {loc:ByteArray->Nat} (h1: ∀p,p < n->loc (D.es p).name=D.loc (D.es p).name) (h2: ∀p,p < D.on->loc (D.oF p)=D.loc (D.oF p)) (h3: ∀p,p < D.sn->loc (D.sF p)=D.loc (D.sF p)) (h4: ∀p,p < D.en->loc (D.eF p).name=D.loc (D.eF p).name): ({ D with loc:=loc }:CrewD).rows n=D.rows n:=by
 unfold CrewD.rows rowE rowT rowX
 dsimp only
 rw [flatH_cells (cells:=effC loc) (cells':=effC D.loc) (f:=D.es) (fun i hi=> by unfold effC;rw [h1 i hi]),flatH_cells (cells:=effC loc) (cells':=effC D.loc) (f:=D.eF) (fun i hi=> by unfold effC;rw [h4 i hi]),
  flatH_cells (cells:=fun x=> [.pointer (some ⟨loc x,0,none⟩)]) (cells':=fun x=> [.pointer (some ⟨D.loc x,0,none⟩)]) (f:=D.oF) (fun i hi=> by rw [h2 i hi]),flatH_cells (cells:=fun x=> [.pointer (some ⟨loc x,0,none⟩)]) (cells':=fun x=> [.pointer (some ⟨D.loc x,0,none⟩)]) (f:=D.sF) (fun i hi=> by rw [h3 i hi])]
structure CrewK (c:CrewC):Prop where
 ok:ActsOk (Q_ c.Kj)
 fits: ∀y∈c.Kj,y.Fits
 len:c.Kj.length<=60
 rises:Rises c.Kj
 nodes:Nodes c.wz c.a c.Kj
 fin:FinishOk c.wz
 wk:c.wk<=60
open Classical in
noncomputable def locOf (ts:List Zx) (loc:ByteArray->Nat) (x:ByteArray):Nat:=if h: ∃t∈ts,t.r.name=x then (Classical.choose h).tb else loc x
theorem locOf_mem {ts:List Zx} {loc:ByteArray->Nat} (ha:AscX (Qk ts)) {t:Zx} (ht:t∈ts) (hn: (ts.map (·.tb)).Nodup):locOf ts loc t.r.name=t.tb:=by
 have h: ∃u∈ts,u.r.name=t.r.name:= ⟨t,ht,rfl⟩
 unfold locOf
 rw [dif_pos h]
 obtain ⟨h1,h2⟩:=Classical.choose_spec h
 have e:Classical.choose h=t:=by
  obtain ⟨i,hi,e1⟩:=List.getElem_of_mem h1
  obtain ⟨k,hk,e2⟩:=List.getElem_of_mem ht
  have hp:=List.pairwise_iff_getElem.1 ha
  rw [<-e1,<-e2]
  rw [<-e1,<-e2] at h2
  rcases Nat.lt_trichotomy i k with hl | rfl | hl
  ·have:=hp i k (by simpa [Qk] using hi) (by simpa [Qk] using hk) hl
   simp only [Qk,List.getElem_map] at this
   rw [h2] at this
   exact absurd this (lessX_irrefl _)
  ·rfl
  ·have:=hp k i (by simpa [Qk] using hk) (by simpa [Qk] using hi) hl
   simp only [Qk,List.getElem_map] at this
   rw [h2] at this
   exact absurd this (lessX_irrefl _)
 rw [e]
theorem do_some {W:Acts} {σ:Env} {n x:ByteArray} {r:Qz} (hn:σ n=some r) (hx: (σ x).isSome=true): (doX W σ n x).isSome=true:=by
 by_cases e:x=n
 ·rw [e,doX_here hn];rfl
 ·obtain ⟨y,hy⟩:=Option.isSome_iff_exists.1 hx
  rw [doX_other e hy];rfl
theorem crewDo_any {c:CrewC} {mx mq:Nat} {S:Shop} {D:CrewD} {w:World} {n:ByteArray} {j:Int} (hm:CrewW c mx mq S.slots.length D w)
  (hbs:BS c.Kj D.ts D.ws) (hrun:Qk D.ts=S.T) (hpl:CrewP (Q_ c.Kj) c.wk S (fun m=> Rdy (Q_ c.Kj) S m∧m≠n) (delG D.g n) D.es D.oF D.on D.sF D.sn D.eF D.en D.fF D.fn) (hloc: ∀t∈D.ts,D.loc t.r.name=t.tb) (hsn: ∀s∈S.slots,(Qj S.T s.name).isSome=true)
  (hk:CrewK c) (hn:Rdy (Q_ c.Kj) S n) (hb: ¬Bz S n) (hj: -1<=j∧j < S.slots.length) (hmx:mx<=90000) (hmq:mq<=900000):
  Calls Tryz.prog 121 #[.pointer (some ⟨c.cb,0,none⟩),.pointer (some ⟨D.loc n,0,none⟩),.int .i64 j] w fun e w'=> e= .returned (.tuple #[])∧∃D',CrewI c (mx+6) (mq+60) (doneS (Q_ c.Kj) S n j) (Rdy (Q_ c.Kj) (doneS (Q_ c.Kj) S n j)) D' w'∧D'.en=D.en:=by
 obtain ⟨r,hr,hcan⟩:=hn
 have hr0:=hr
 rw [<-hrun] at hr hcan
 obtain ⟨hr1,hr2⟩:=env_mem hr
 obtain ⟨t,ht,rfl⟩:=List.mem_map.1 hr1
 obtain ⟨i,hi⟩:=List.getElem?_of_mem ht
 have hlt:D.loc n=t.tb:=by rw [<-hr2];exact hloc t ht
 rw [hlt]
 have hdo:=benchDo_any hm.bm hbs hi hcan hk.ok hk.fits hk.len hk.rises hk.nodes hmx hk.fin
 have hnz:n.size<=maxLen:=by
  have:= (hk.ok _ _ (hm.bm.act t ht).1).2.2.1
  rw [hr2] at this
  unfold maxLen;omega
 obtain ⟨cb,hcb⟩: ∃cb,cb=c.cb:= ⟨_,rfl⟩
 obtain ⟨bb,hbb⟩: ∃bb,bb=c.bb:= ⟨_,rfl⟩
 obtain ⟨tb,htb⟩: ∃tb,tb=t.tb:= ⟨_,rfl⟩
 have c0:w.cell? ⟨cb,0,none⟩=some (.pointer (some ⟨bb,0,none⟩)):=by rw [hcb,hbb];exact hm.c0
 rw [<-hbb,<-htb] at hdo
 rw [<-hcb,<-htb]
 have hin: ∀x,(Qj S.T x).isSome=true->∃u∈D.ts,u.r.name=x:=fun x hx=> by
  obtain ⟨y,hy⟩:=Option.isSome_iff_exists.1 hx
  rw [<-hrun] at hy
  obtain ⟨h1,h2⟩:=env_mem hy
  obtain ⟨u,hu,rfl⟩:=List.mem_map.1 h1
  exact ⟨u,hu,h2⟩
 have HM:=Kz hm
 have HR:=Kz hrun
 have HPl:=Kz hpl
 have HL:=Kz hloc
 have HSn:=Kz hsn
 have HDo:=Kz hdo
 have HIn:=Kz hin
 have HBs:=Kz hbs
 have HCB:=Kz hcb
 have HBB:=Kz hbb
 have HTb:=Kz htb
 have HNz:=Kz hnz
 have HHr:=Kz hr
 have HHr0:=Kz hr0
 have HR2:=Kz hr2
 have HHt:=Kz ht
 have HHi:=Kz hi
 have HCan:=Kz hcan
 have HHb:=Kz hb
 clear hm hrun hpl hloc hsn hdo hin hbs hcb hbb htb hnz hr hr0 hr2 ht hi hcan hb hlt hr1
 go_enter Tryz.func121,Tryz.ntmps121
 go_wp2_with fail
 refine HDo.out.mono ?_
 rintro e w1 ⟨rfl,ts',d',dc',f',ws',hB1,hS1,hE1⟩
 rw [HBB.out] at hB1
 have hps:=hB1.oth.has
 have hM1:=CrewM.did HM.out hB1
 have hrun1:Qk ts'=doN (Q_ c.Kj) S.T n:=by
  have hasc:=HPl.out.sane.ok.asc
  refine asc_eq hM1.bm.asc (known_do hasc HPl.out.sane.ok.known).1 ?_
  rw [hE1,HR2.out,HR.out]
  unfold doN
  rw [HHr0.out]
  simp only
  rw [doL_env hasc HHr0.out]
 have hold: ∀x,(Qj S.T x).isSome=true->locOf ts' D.loc x=D.loc x:=fun x hx=> by
  obtain ⟨u,hu,rfl⟩:=HIn.out x hx
  obtain ⟨u',hu',e1,e2⟩:=hps (u.tb,u.r.name) (List.mem_map.2 ⟨u,hu,rfl⟩)
  dsimp only at e1 e2
  rw [HL.out u hu,<-e2,locOf_mem hM1.bm.asc hu' hM1.bm.tbs,e1]
 have hrows: ({ D with loc:=locOf ts' D.loc }:CrewD).rows S.slots.length=D.rows S.slots.length:=by
  refine CrewD.rows_loc (fun p hp=> hold _ ?_) (fun p hp=> hold _ ?_) (fun p hp=> hold _ ?_) (fun p hp=> hold _ ?_)
  ·rw [HPl.out.effs p hp]
   have hb:=HPl.out.sane.back
   unfold effAt
   rw [List.getElem?_eq_getElem hp,List.getElem?_eq_getElem (by omega)]
   exact HSn.out _ (List.getElem_mem hp)
  ·exact Rdy.some (((HPl.out.off.mem _).1 ⟨p,hp,rfl⟩).1.1)
  ·exact Rdy.some (((HPl.out.spt.mem _).1 ⟨p,hp,rfl⟩).1.1)
  ·exact Rdy.some ((HPl.out.bq _ (BzE.name HPl.out.sane ((HPl.out.ends.mem _).1 ⟨p,hp,rfl⟩))).1.1)
 obtain ⟨D1,hD1⟩: ∃D1:CrewD,D1= { D with loc:=locOf ts' D.loc,ts:=ts',d:=d',dc:=dc',f:=f',ws:=ws' }:= ⟨_,rfl⟩
 have hW1:CrewW c (mx+6) mq S.slots.length D1 w1:=by
  have e:D1.rows S.slots.length=D.rows S.slots.length:=by rw [<-hrows,hD1];rfl
  unfold CrewW
  rw [e,hD1]
  exact hM1
 have hdone:=HPl.out.done ⟨_,HHr0.out,by rw [<-HR.out];exact HCan.out⟩ HHb.out hj
 have c2:w1.cell? ⟨cb,2,none⟩=some (.map (some c.qb)):=by rw [HCB.out];exact hW1.c2
 have hcl:cb < w1.heap.size:=by rw [HCB.out];exact hW1.row.lt
 obtain ⟨u,hu,e1,e2⟩:=hps (t.tb,t.r.name) (List.mem_map.2 ⟨t,HHt.out,rfl⟩)
 obtain ⟨cu1,cu2,_⟩:=BM.taskCells hM1.bm hu
 dsimp only at e1 e2
 rw [e1,<-HTb.out] at cu1 cu2
 rw [e2,HR2.out] at cu2
 have HW1:=Kz hW1
 have HD1:=Kz hD1
 have HRun1:=Kz hrun1
 have HDn:=Kz hdone
 have HS1:=Kz hS1
 have HLoc1:Hid (∀t∈ts',locOf ts' D.loc t.r.name=t.tb):=fun t ht=> locOf_mem hM1.bm.asc ht hM1.bm.tbs
 have Zz:Hid (∀u,K_ w1 u->u.cell? ⟨cb,2,none⟩=some (.map (some c.qb))∧u.cell? ⟨tb,0,none⟩=some (.string n)):=fun u k=> ⟨(k.cell hcl).trans c2,(k.cell cu1).trans cu2⟩
 clear hW1 hD1 hrun1 hdone hS1 hM1 hB1 hE1 hps hold hrows hu e1 e2 cu2 c2
 go_wp2_with fail
 refine Qx.region (by kernel_rfl) (fun u=> u.cell? ⟨cb,2,none⟩=some (.map (some c.qb))∧u.cell? ⟨tb,0,none⟩=some (.string n)) 9 (Zz.out _ (K_.refl w1).drew) (fun Z_=> ?_)
 have KD:K_ w1 w1.drew:= (K_.refl w1).drew
 generalize hwd:w1.drew=wd at Z_ KD⊢
 clear hwd
 refine Qx.take 0 [1,2,3,9] (v:= ?_) (by (simp only [List.getElem?_toArray,List.getElem?_cons_zero];rfl)) (by kernel_rfl) (by kernel_rfl) (by kernel_rfl) (by kernel_rfl) (by exact fun _ _ _ h=> h) (Or.inl ⟨by rfl, ?_⟩) Z_ ?_
 rotate_left
 ·intro u hu
  obtain ⟨hu1,hu2⟩:=hu
  go_simp
  try with_reducible rfl
 try simp only [Act.put,upA,upB,upC]
 refine Qx.take 1 [2,3,9] (v:= ?_) (by (simp only [List.getElem?_toArray,List.getElem?_cons_succ,List.getElem?_cons_zero];rfl)) (by kernel_rfl) (by kernel_rfl) (by kernel_rfl) (by kernel_rfl) (by exact fun _ _ _ h=> h) (Or.inl ⟨by rfl, ?_⟩) Z_ ?_
 rotate_left
 ·intro u hu
  obtain ⟨hu1,hu2⟩:=hu
  go_simp
  try with_reducible rfl
 try simp only [Act.put,upA,upB,upC]
 refine Qx.take 2 [3,9] (v:= ?_) (by (simp only [List.getElem?_toArray,List.getElem?_cons_succ,List.getElem?_cons_zero];rfl)) (by kernel_rfl) (by kernel_rfl) (by kernel_rfl) (by kernel_rfl) (by exact fun _ _ _ h=> h) (Or.inl ⟨by rfl, ?_⟩) Z_ ?_
 rotate_left
 ·intro u hu
  obtain ⟨hu1,hu2⟩:=hu
  go_simp
  try with_reducible rfl
 try simp only [Act.put,upA,upB,upC]
 refine Qx.take 3 [9] (v:= ?_) (by (simp only [List.getElem?_toArray,List.getElem?_cons_succ,List.getElem?_cons_zero];rfl)) (by kernel_rfl) (by kernel_rfl) (by kernel_rfl) (by kernel_rfl) (by exact fun _ _ _ h=> h) (Or.inl ⟨by rfl, ?_⟩) Z_ ?_
 rotate_left
 ·intro u hu
  obtain ⟨hu1,hu2⟩:=hu
  go_simp
  try with_reducible rfl
 try simp only [Act.put,upA,upB,upC]
 refine Qx.take 4 [5,6,7,8,9] (v:= ?_) (by (simp only [List.getElem?_toArray,List.getElem?_cons_succ,List.getElem?_cons_zero];rfl)) (by kernel_rfl) (by kernel_rfl) (by kernel_rfl) (by kernel_rfl) (by exact fun _ _ _ h=> h) (Or.inl ⟨by rfl, ?_⟩) Z_ ?_
 rotate_left
 ·intro u hu
  obtain ⟨hu1,hu2⟩:=hu
  go_simp
  try with_reducible rfl
 try simp only [Act.put,upA,upB,upC]
 refine Qx.take 5 [6,7,8,9] (v:= ?_) (by (simp only [List.getElem?_toArray,List.getElem?_cons_succ,List.getElem?_cons_zero];rfl)) (by kernel_rfl) (by kernel_rfl) (by kernel_rfl) (by kernel_rfl) (by exact fun _ _ _ h=> h) (Or.inl ⟨by rfl, ?_⟩) Z_ ?_
 rotate_left
 ·intro u hu
  obtain ⟨hu1,hu2⟩:=hu
  go_simp
  try with_reducible rfl
 try simp only [Act.put,upA,upB,upC]
 refine Qx.take 6 [7,8,9] (v:= ?_) (by (simp only [List.getElem?_toArray,List.getElem?_cons_succ,List.getElem?_cons_zero];rfl)) (by kernel_rfl) (by kernel_rfl) (by kernel_rfl) (by kernel_rfl) (by exact fun _ _ _ h=> h) (Or.inl ⟨by rfl, ?_⟩) Z_ ?_
 rotate_left
 ·intro u hu
  obtain ⟨hu1,hu2⟩:=hu
  go_simp
  try with_reducible rfl
 try simp only [Act.put,upA,upB,upC]
 refine Qx.take 7 [8,9] (v:= ?_) (by (simp only [List.getElem?_toArray,List.getElem?_cons_succ,List.getElem?_cons_zero];rfl)) (by kernel_rfl) (by kernel_rfl) (by kernel_rfl) (by kernel_rfl) (by exact fun _ _ _ h=> h) (Or.inl ⟨by rfl, ?_⟩) Z_ ?_
 rotate_left
 ·intro u hu
  obtain ⟨hu1,hu2⟩:=hu
  go_simp
  try with_reducible rfl
 try simp only [Act.put,upA,upB,upC]
 refine Qx.take 8 [9] (v:= ?_) (by (simp only [List.getElem?_toArray,List.getElem?_cons_succ,List.getElem?_cons_zero];rfl)) (by kernel_rfl) (by kernel_rfl) (by kernel_rfl) (by kernel_rfl) (by exact fun _ _ _ h=> h) (Or.inl ⟨by rfl, ?_⟩) Z_ ?_
 rotate_left
 ·intro u hu
  obtain ⟨hu1,hu2⟩:=hu
  go_simp
  try with_reducible rfl
 try simp only [Act.put,upA,upB,upC]
 obtain ⟨w2,hdel,hcs2,k2⟩:= (HW1.out.kept KD).caus.del HNz.out 0
 have HW2:Hid (CrewW c (mx+6) mq S.slots.length { D1 with g:=delG D1.g n } w2):= (HW1.out.kept KD).causT k2 hcs2
 clear hcs2 k2
 refine Qx.nx 9 (fun K hK=> ?_)
 go_simp
 refine hK.out _ _ (fun h=> absurd rfl h) ?_
 clear hK K Z_
 try simp only [Act.put,upA,upB,upC]
 refine Qx.dn ?_
 clear hdel
 have HI2:Hid (CrewI c (mx+6) mq (doneS (Q_ c.Kj) S n j) (fun m=> Rdy (Q_ c.Kj) S m∧m≠n) { D1 with g:=delG D1.g n } w2):=by
  refine ⟨HW2.out, ?_, ?_, ?_, ?_,fun s hs=> ?_⟩
  ·rw [HD1.out];exact HS1.out
  ·rw [HD1.out];exact HRun1.out
  ·rw [HD1.out];exact HDn.out.1
  ·rw [HD1.out];exact HLoc1.out
  ·show (Qj (doN (Q_ c.Kj) S.T n) s.name).isSome=true
   unfold doN
   rw [HHr0.out]
   simp only
   rw [doL_env HPl.out.sane.ok.asc HHr0.out]
   exact do_some HHr0.out (HSn.out s hs)
 have hoff:=offer_any HI2.out hk.len hk.ok HDn.out.2 hmq
 rw [<-HCB.out] at hoff
 go_wp2_with fail
 refine hoff.mono ?_
 rintro e w3 ⟨rfl,D3,hI3,_,hen3⟩
 have HEn:=Kz hen3
 have HI3:=Kz hI3
 clear hI3 hoff hen3
 go_wp2
 go_end0
 exact ⟨rfl,D3,HI3.out,by rw [HEn.out,HD1.out]⟩
def potS (c:CrewC) (S:Shop):Nat:=potAll (c.Kj.map (·.name)) (Qj S.T)
structure CrewB (c:CrewC) (mx mq:Nat) (S:Shop) (D:CrewD) (w:World):Prop where
 i:CrewI c mx mq S (Rdy (Q_ c.Kj) S) D w
 b1:mx+6 * potS c S<=9000
 b2:mq+60 * potS c S<=500000
 b3:S.slots.length+potS c S<=2000+D.en
 b4: ∀(k:Nat) (e:EffD),S.busy[k]? =some (some e)->0<=e.fin∧e.fin<=20 * (S.slots.length:Int)
def CrewA (c:CrewC) (S:Shop) (w:World):Prop:= ∃mx mq D,CrewB c mx mq S D w
theorem potS_done {c:CrewC} {mx mq:Nat} {S:Shop} {Q:ByteArray->Prop} {D:CrewD} {w:World} (h:CrewI c mx mq S Q D w) {S0:Shop} (hT:S0.T=S.T) {n:ByteArray} {j:Int} (hn:Rdy (Q_ c.Kj) S n):potS c (doneS (Q_ c.Kj) S0 n j) < potS c S:=by
 have hg:GoodL c.Kj S.T:=by rw [<-h.run];exact h.bs.good
 obtain ⟨r,hr,hc⟩:=hn
 have hw:=hg.wf
 have hp:= (potAll_do hw ⟨r,hr,hc⟩ (c.Kj.map (·.name))).2 (acts_in (hw _ _ hr).web)
 have e:Qj (doN (Q_ c.Kj) S.T n)=doX (Q_ c.Kj) (Qj S.T) n:=by
  unfold doN
  rw [hr]
  exact doL_env hg.asc hr
 unfold potS
 show potAll _ (Qj (doN (Q_ c.Kj) S0.T n)) < _
 rw [hT,e]
 exact hp
theorem Tryz.effFin (u:World) (x:EffX) (loc:ByteArray->Nat): (Instr.field 147 (.agg #[.int .i64 x.at',.int .i64 x.worker,.string x.name,.pointer (some ⟨loc x.name,0,none⟩),.int .i64 x.fin,.int .i64 x.place,.int .i64 x.cause]) 2).run Tryz.prog u= .ok (.int .i64 x.fin) u:=by kernel_rfl
theorem crewFinish_any {c:CrewC} {S:Shop} {w:World} {t:Int} (hA:CrewA c S w) (hk:CrewK c) (hf:From8 t S):
  Calls Tryz.prog 71 #[.pointer (some ⟨c.cb,0,none⟩),.int .i64 t] w fun e w'=> e= .returned (.tuple #[])∧∃S',Fin8 (Q_ c.Kj) t S S'∧CrewA c S' w'∧S'.slots=S.slots∧(S'=S∨potS c S' < potS c S):=by
 obtain ⟨mx,mq,D,hB⟩:=hA
 obtain ⟨cb,hcb⟩: ∃cb,cb=c.cb:= ⟨_,rfl⟩
 rw [<-hcb]
 have HCB:=Kz hcb
 have HK:=Kz hk
 have HB:=Kz hB
 have HF:=Kz hf
 clear hcb hk hB hf
 go_enter Tryz.func71,Tryz.ntmps71
 go_wp2_with fail
 go_loopg [] D.en (fun gg wr=> ∃(S1:Shop) (mx1 mq1:Nat) (D1:CrewD),Hid (gg=D1.en)∧Hid (CrewB c mx1 mq1 S1 D1 wr)∧Hid (From8 t S1)∧Hid (∀S',Fin8 (Q_ c.Kj) t S1 S'->Fin8 (Q_ c.Kj) t S S')∧Hid (S1.slots=S.slots)∧Hid (S1=S∨potS c S1 < potS c S))
 case atStart=> exact ⟨S,mx,mq,D,rfl,HB,HF,fun _ h=> h,rfl,.inl rfl⟩
 case round=>
  obtain ⟨S1,mx1,mq1,D1,Hgg,HB1,HF1,HG1,HS1,HP1⟩:=hrel
  have hE:=HB1.out.i.mem.endH
  rw [<-HCB.out] at hE
  have HE:=Kz hE
  clear hE
  have hemp:=emptyE_any wr HE.out
  by_cases hz:D1.en=0
  ·have hzb:decide (D1.en=0)=true:=by simpa using hz
   rw [hzb] at hemp
   have HZ:=Kz hz
   clear hz hzb
   go_wp2_with fail
   refine hemp.mono ?_
   rintro e w1 ⟨rfl,hw1⟩
   rw [hw1]
   clear hw1 w1 hemp
   go_wp2
   go_end0
   refine ⟨rfl,S1,HG1.out _ (.stop fun k e hk he=> ?_),⟨mx1,mq1,D1,HB1.out⟩,HS1.out,HP1.out⟩
   have hpl:=HB1.out.i.pl
   rw [HZ.out] at hpl
   exact hpl.idle k e hk
  ·obtain ⟨m,hm⟩: ∃m,D1.en=m+1:= ⟨D1.en - 1,by omega⟩
   have hzb:decide (D1.en=0)=false:=by simpa using hz
   rw [hzb] at hemp
   have hpl:=HB1.out.i.pl
   rw [hm] at hpl
   obtain ⟨k,x,x1,x2,x3,x4,x5,x6,x7,x8,x9,x10,x11⟩:=hpl.endOne
   have hfst:=firstE_any wr HE.out (by omega)
   have HFst:=Kz hfst
   have HMm:=Kz hm
   have X1:=Kz x1
   have X2:=Kz x2
   have X3:=Kz x3
   have X5:=Kz x5
   have X6:=Kz x6
   have X7:=Kz x7
   have X8:=Kz x8
   have X9:=Kz x9
   have X10:=Kz x10
   have X11:=Kz x11
   clear hpl x1 x2 x3 x5 x6 x7 x8 x9 x10 x11 hfst hm hz hzb
   have X4:=Kz x4
   clear x4
   by_cases he:x.fin=t
   ·have heb: ((D1.eF 0).fin == t)=true:=by rw [X4.out];simpa using he
    have HE0:=Kz he
    clear he
    go_wp2_with fail
    refine hemp.mono ?_
    rintro e w1 ⟨rfl,hw1⟩
    rw [hw1]
    clear hw1 w1 hemp
    go_wp2_with fail
    refine HFst.out.mono ?_
    rintro e w1 ⟨rfl,k1⟩
    have HK1:=Kz k1
    clear k1
    unfold effV
    have hfld:=Tryz.effFin w1 (D1.eF 0) D1.loc
    have HI1:=Kz (HB1.out.i.kept HK1.out)
    have hE1:=HI1.out.mem.endH
    rw [HMm.out] at hE1
    have hle:=HI1.out.lens HK.out.len
    have htk:=takeE_any w1 hE1 (fun y u hy k=> HI1.out.okE k (kb_row (i:=3) rfl (by show Value.slice D1.xa D1.en D1.xc=_;rw [HMm.out])) (HI1.out.endIn (by rw [HMm.out];exact hy))) (by have:=HMm.out;have:=HK.out.wk;omega)
    rw [<-HCB.out] at htk
    have HTk:=Kz htk
    clear htk hE1 hle
    go_wp2_with fail
    refine HTk.out.mono ?_
    rintro e w2 ⟨rfl,hM2,hT2⟩
    rw [HCB.out] at hM2 hT2
    have HW2:Hid (CrewW c mx1 mq1 S1.slots.length { D1 with eF:=takeF aheadE D1.eF m,en:=m,xa:=D1.xa,xc:=D1.xc } w2):=HI1.out.mem.endT hM2 (by rw [HMm.out];exact hT2)
    clear hM2 hT2
    unfold effV
    clear hfld
    obtain ⟨w3,hw3⟩: ∃w3,w3=w2.alloc (.cells #[.int .i64 (D1.eF 0).at',.int .i64 (D1.eF 0).worker,.string (D1.eF 0).name,.pointer (some ⟨D1.loc (D1.eF 0).name,0,none⟩),.int .i64 (D1.eF 0).fin,.int .i64 (D1.eF 0).place,.int .i64 (D1.eF 0).cause] 147):= ⟨_,rfl⟩
    obtain ⟨_,b1,_,b3,_,b5,_⟩:=EffAt.new (loc:=D1.loc) w2 (D1.eF 0)
    simp only [Nat.zero_add] at b1 b3 b5
    rw [<-hw3] at b1 b3 b5
    rw [X5.out] at b1
    rw [X3.out] at b3
    rw [X6.out] at b5
    have K3:K_ w2 w3:=by rw [hw3];exact (K_.refl _).alloc _
    have z3:w2.heap.size < w3.heap.size:=by rw [hw3];simp
    have HB':Hid (w3.cell? ⟨w2.heap.size,1,none⟩=some (.int .i64 (k:Int))∧w3.cell? ⟨w2.heap.size,3,none⟩=some (.pointer (some ⟨D1.loc x.name,0,none⟩))∧w3.cell? ⟨w2.heap.size,5,none⟩=some (.int .i64 (x.slot:Int))):= ⟨b1,b3,b5⟩
    clear b1 b3 b5
    go_wp2_with fail
    rw [<-hw3]
    clear hw3
    have HW3:=Kz (HW2.out.kept K3)
    have hc3:cb < w2.heap.size:=by rw [HCB.out];exact HW2.out.row.lt
    have HOw:Hid (∀b,(Value.slice D1.fa D1.fn D1.fc).ownBlock=some b->b < w2.heap.size):=fun b hb=> (HW2.out.freeH.row.lt b hb).2
    obtain ⟨eb,heb⟩: ∃eb,eb=w2.heap.size:= ⟨_,rfl⟩
    rw [<-heb] at HB' z3 hc3 HOw⊢
    clear heb K3 HW2
    refine Qx.region (by kernel_rfl) (fun u=> u.cell? ⟨eb,1,none⟩=some (.int .i64 (k:Int))) 6 HB'.out.1 (fun Z_=> ?_)
    have KD:K_ w3 w3.drew:= (K_.refl w3).drew
    generalize hwd:w3.drew=wd at Z_ KD⊢
    clear hwd
    refine Qx.take 0 [1,2,6] (v:= ?_) (by (simp only [List.getElem?_toArray,List.getElem?_cons_zero];rfl)) (by kernel_rfl) (by kernel_rfl) (by kernel_rfl) (by kernel_rfl) (by exact fun _ _ _ h=> h) (Or.inl ⟨by rfl, ?_⟩) Z_ ?_
    rotate_left
    ·intro u hu
     obtain hu1:=hu
     go_simp
     try with_reducible rfl
    try simp only [Act.put,upA,upB,upC]
    refine Qx.take 1 [2,6] (v:= ?_) (by (simp only [List.getElem?_toArray,List.getElem?_cons_succ,List.getElem?_cons_zero];rfl)) (by kernel_rfl) (by kernel_rfl) (by kernel_rfl) (by kernel_rfl) (by exact fun _ _ _ h=> h) (Or.inl ⟨by rfl, ?_⟩) Z_ ?_
    rotate_left
    ·intro u hu
     obtain hu1:=hu
     go_simp
     try with_reducible rfl
    try simp only [Act.put,upA,upB,upC]
    refine Qx.take 2 [6] (v:= ?_) (by (simp only [List.getElem?_toArray,List.getElem?_cons_succ,List.getElem?_cons_zero];rfl)) (by kernel_rfl) (by kernel_rfl) (by kernel_rfl) (by kernel_rfl) (by exact fun _ _ _ h=> h) (Or.inl ⟨by rfl, ?_⟩) Z_ ?_
    rotate_left
    ·intro u hu
     obtain hu1:=hu
     go_simp
     try with_reducible rfl
    try simp only [Act.put,upA,upB,upC]
    refine Qx.take 3 [4,5,6] (v:= ?_) (by (simp only [List.getElem?_toArray,List.getElem?_cons_succ,List.getElem?_cons_zero];rfl)) (by kernel_rfl) (by kernel_rfl) (by kernel_rfl) (by kernel_rfl) (by exact fun _ _ _ h=> h) (Or.inl ⟨by rfl, ?_⟩) Z_ ?_
    rotate_left
    ·intro u hu
     obtain hu1:=hu
     go_simp
     try with_reducible rfl
    try simp only [Act.put,upA,upB,upC]
    refine Qx.take 4 [5,6] (v:= ?_) (by (simp only [List.getElem?_toArray,List.getElem?_cons_succ,List.getElem?_cons_zero];rfl)) (by kernel_rfl) (by kernel_rfl) (by kernel_rfl) (by kernel_rfl) (by exact fun _ _ _ h=> h) (Or.inl ⟨by rfl, ?_⟩) Z_ ?_
    rotate_left
    ·intro u hu
     obtain hu1:=hu
     go_simp
     try with_reducible rfl
    try simp only [Act.put,upA,upB,upC]
    refine Qx.take 5 [6] (v:= ?_) (by (simp only [List.getElem?_toArray,List.getElem?_cons_succ,List.getElem?_cons_zero];rfl)) (by kernel_rfl) (by kernel_rfl) (by kernel_rfl) (by kernel_rfl) (by exact fun _ _ _ h=> h) (Or.inl ⟨by rfl, ?_⟩) Z_ ?_
    rotate_left
    ·intro u hu
     obtain hu1:=hu
     go_simp
     try with_reducible rfl
    try simp only [Act.put,upA,upB,upC]
    have HWD:=Kz (HW3.out.kept KD)
    have hput:=putI_any wd HWD.out.freeH int_ahead rfl k (fun _ _ _ _=> trivial) (by have:= (HI1.out.lens HK.out.len).2.2.2.2;have:=HK.out.wk;dsimp only;omega) HWD.out.bm.kw.size
    rw [<-HCB.out] at hput
    dsimp only at hput
    have HPt:=Kz hput
    clear hput
    refine Qx.nx 6 (fun K hK=> ?_)
    rw [if_pos (by rfl)]
    go_simp
    go_at_call 69
    refine HPt.out.mono ?_
    rintro e w4 ⟨rfl,a4,c4,hM4,hT4⟩
    rw [HCB.out] at hM4 hT4
    have HW4:Hid (CrewW c mx1 mq1 S1.slots.length { D1 with eF:=takeF aheadE D1.eF m,en:=m,xa:=D1.xa,xc:=D1.xc,fF:=putF aheadI D1.fF D1.fn k,fn:=D1.fn+1,fa:=a4,fc:=c4 } w4):=HWD.out.freeT hM4 hT4
    have nP: ¬(eb=c.cb∨(Value.slice D1.fa D1.fn D1.fc).ownBlock=some eb):=by
     rintro (e | e)
     ·rw [<-HCB.out] at e;omega
     ·have:=HOw.out eb e;omega
    have ebd:eb < wd.heap.size:=by have:=KD.size;omega
    have b3:w4.cell? ⟨eb,3,none⟩=some (.pointer (some ⟨D1.loc x.name,0,none⟩)):= (hT4.but.cell ebd nP).trans ((KD.cell z3).trans HB'.out.2.1)
    have b5:w4.cell? ⟨eb,5,none⟩=some (.int .i64 (x.slot:Int)):= (hT4.but.cell ebd nP).trans ((KD.cell z3).trans HB'.out.2.2)
    dsimp only
    refine hK.out _ _ (fun h=> absurd rfl h) ?_
    clear hK K Z_ hM4 hT4 nP
    try simp only [Act.put,upA,upB,upC]
    refine Qx.dn ?_
    have hdo:=crewDo_any (S:= { S1 with busy:=S1.busy.set k none }) (n:=x.name) (j:= (x.slot:Int)) HW4.out HB1.out.i.bs HB1.out.i.run X9.out HB1.out.i.loc HB1.out.i.sn HK.out X10.out X11.out ⟨by omega,by have:=HB1.out.i.pl.sane.slot k x X1.out;show (x.slot:Int) < ((S1.slots.length:Nat):Int);omega⟩ (by have:=HB1.out.b1;omega) (by have:=HB1.out.b2;omega)
    dsimp only at hdo
    rw [<-HCB.out] at hdo
    have HDo:=Kz hdo
    clear hdo
    go_wp2_with fail
    refine HDo.out.mono ?_
    rintro e w5 ⟨rfl,D5,hI5,he5⟩
    have HI5:=Kz hI5
    have HE5:=Kz he5
    clear hI5 he5 b3 b5
    go_wp2_with fail
    have hpot:=potS_done (S0:= { S1 with busy:=S1.busy.set k none }) (j:= (x.slot:Int)) HB1.out.i rfl X10.out
    have hsub: ∀(k':Nat) (e':EffD),(S1.busy.set k none)[k']? =some (some e')->S1.busy[k']? =some (some e'):=fun k' e' hk'=> by
     rcases set_get hk' with ⟨_,y⟩ | ⟨_,y⟩
     ·cases y
     ·exact y
    go_roundg m
    case measure=> have h1:=Hgg.out;have h2:=HMm.out;omega
    case rel=>
     refine ⟨_,mx1+6,mq1+60,D5,HE5.out.symm,⟨HI5.out, ?_, ?_, ?_,fun k' e' hk'=> HB1.out.b4 k' e' (hsub k' e' hk')⟩,fun k' e' hk'=> HF1.out k' e' (hsub k' e' hk'),fun S' hS'=> HG1.out S' (.go X1.out HE0.out (fun k' e' hne hk' he'=> X8.out k' e' hne hk' (by rw [he',HE0.out])) hS'),HS1.out,.inr (by rcases HP1.out with e | e;rw [<-e];exact hpot;omega)⟩
     ·have:=HB1.out.b1;omega
     ·have:=HB1.out.b2;omega
     ·have h1:=HB1.out.b3;have h2:=HE5.out;have h3:=HMm.out;show S1.slots.length+_<=_;omega
   ·have heb: ((D1.eF 0).fin == t)=false:=by rw [X4.out];simpa using he
    have HE0:=Kz he
    clear he
    go_wp2_with fail
    refine hemp.mono ?_
    rintro e w1 ⟨rfl,hw1⟩
    rw [hw1]
    clear hw1 w1 hemp
    go_wp2_with fail
    refine HFst.out.mono ?_
    rintro e w1 ⟨rfl,k1⟩
    have HK1:=Kz k1
    clear k1
    unfold effV
    have hfld:=Tryz.effFin w1 (D1.eF 0) D1.loc
    go_wp2
    go_end0
    refine ⟨rfl,S1,HG1.out _ (.stop fun k' e' hk' he'=> ?_),⟨mx1,mq1,D1,HB1.out.i.kept HK1.out,HB1.out.b1,HB1.out.b2,HB1.out.b3,HB1.out.b4⟩,HS1.out,HP1.out⟩
    have h1:=X7.out k' e' hk'
    have h2:=HF1.out k x X1.out
    have h3:=HE0.out
    omega
theorem makeOver_any {c:CrewC} {S:Shop} {w:World} (hA:CrewA c S w) (hk:CrewK c):
  Calls Tryz.prog 72 #[.pointer (some ⟨c.cb,0,none⟩)] w fun e w'=> e= .returned (.tuple #[])∧∃S',Spt8 (Q_ c.Kj) S S'∧CrewA c S' w'∧S'.slots=S.slots∧S'.busy=S.busy∧potS c S'<=potS c S:=by
 obtain ⟨mx,mq,D,hB⟩:=hA
 obtain ⟨cb,hcb⟩: ∃cb,cb=c.cb:= ⟨_,rfl⟩
 rw [<-hcb]
 have HCB:=Kz hcb
 have HK:=Kz hk
 have HB:=Kz hB
 clear hcb hk hB
 go_enter Tryz.func72,Tryz.ntmps72
 go_wp2_with fail
 go_loopg [] (potS c S) (fun gg wr=> ∃(S1:Shop) (mx1 mq1:Nat) (D1:CrewD),Hid (gg=potS c S1)∧Hid (CrewB c mx1 mq1 S1 D1 wr)∧Hid (∀S',Spt8 (Q_ c.Kj) S1 S'->Spt8 (Q_ c.Kj) S S')∧Hid (S1.slots=S.slots)∧Hid (S1.busy=S.busy)∧Hid (potS c S1<=potS c S))
 case atStart=> exact ⟨S,mx,mq,D,rfl,HB,fun _ h=> h,rfl,rfl,Nat.le_refl _⟩
 case round=>
  obtain ⟨S1,mx1,mq1,D1,Hgg,HB1,HG1,HS1,HZ1,HP1⟩:=hrel
  have hE:=HB1.out.i.mem.sptH
  rw [<-HCB.out] at hE
  have hemp:=emptyT_any wr hE
  clear hE
  by_cases hz:D1.sn=0
  ·have hzb:decide (D1.sn=0)=true:=by simpa using hz
   rw [hzb] at hemp
   have HZ:=Kz hz
   clear hz hzb
   go_wp2_with fail
   refine hemp.mono ?_
   rintro e w1 ⟨rfl,hw1⟩
   rw [hw1]
   clear hw1 w1 hemp
   go_wp2
   go_end0
   refine ⟨rfl,S1,HG1.out _ (.stop ?_),⟨mx1,mq1,D1,HB1.out⟩,HS1.out,HZ1.out,HP1.out⟩
   have hpl:=HB1.out.i.pl
   rw [HZ.out] at hpl
   exact hpl.spentNone
  ·obtain ⟨m,hm⟩: ∃m,D1.sn=m+1:= ⟨D1.sn - 1,by omega⟩
   have hzb:decide (D1.sn=0)=false:=by simpa using hz
   rw [hzb] at hemp
   have hpl:=HB1.out.i.pl
   rw [hm] at hpl
   obtain ⟨x1,x2,x3,x4,x5⟩:=hpl.spentTake
   have hE1:=HB1.out.i.mem.sptH
   rw [hm] at hE1
   have hle:=HB1.out.i.lens HK.out.len
   have htk:=takeT_any wr hE1 (named_ahead (Q_ c.Kj) D1.loc) (.inr rfl) (fun y u hy k=> HB1.out.i.okT k (kb_row (i:=2) rfl (by show Value.slice D1.sa D1.sn D1.sc=_;rw [hm])) (HB1.out.i.sptIn (by rw [hm];exact hy))) (by omega)
   rw [<-HCB.out] at htk
   have HTk:=Kz htk
   have HMm:=Kz hm
   obtain ⟨nm,hnm⟩: ∃nm,nm=D1.sF 0:= ⟨_,rfl⟩
   rw [<-hnm] at x1 x2 x3 x4 x5 HTk
   obtain ⟨cs,hcs⟩: ∃cs,cs=S1.cause nm:= ⟨_,rfl⟩
   rw [<-hcs] at x2
   have X1:=Kz x1
   have X2:=Kz x2
   have X3:=Kz x3
   have X4:=Kz x4
   have X5:=Kz x5
   have HNm:=Kz hnm
   have HCs:=Kz hcs
   clear hpl hE1 hle htk hm x1 x2 x3 x4 x5 hnm hcs hz hzb
   go_wp2_with fail
   refine hemp.mono ?_
   rintro e w1 ⟨rfl,hw1⟩
   rw [hw1]
   clear hw1 w1 hemp
   go_wp2_with fail
   refine HTk.out.mono ?_
   rintro e w2 ⟨rfl,hM2,hT2⟩
   rw [HCB.out] at hM2 hT2
   have HW2:Hid (CrewW c mx1 mq1 S1.slots.length { D1 with sF:=takeF aheadN D1.sF m,sn:=m,sa:=D1.sa,sc:=D1.sc } w2):=HB1.out.i.mem.sptT hM2 (by rw [HMm.out];exact hT2)
   have ho2:=HB1.out.i.okT hT2.but (kb_row (i:=2) rfl (by show Value.slice D1.sa D1.sn D1.sc=_;rw [HMm.out])) (Rdy.some X3.out)
   have hnz:nm.size<=maxLen:=by
    obtain ⟨r,hr,_⟩:=X3.out
    obtain ⟨A,hA⟩:=Option.isSome_iff_exists.1 (HB1.out.i.pl.sane.ok.known nm r hr)
    have:= (HK.out.ok _ _ hA).2.2.1
    unfold maxLen;omega
   obtain ⟨tb,htb⟩: ∃tb,tb=D1.loc nm:= ⟨_,rfl⟩
   have HTb:=Kz htb
   rw [OkT,<-htb] at ho2
   rw [<-htb]
   have Zz:Hid (∀u,K_ w2 u->u.cell? ⟨cb,2,none⟩=some (.map (some c.qb))∧u.cell? ⟨tb,0,none⟩=some (.string nm)∧(Instr.lookup 130 (.map (some c.qb)) (.string nm) false).run Tryz.prog u= .ok (.int .i64 cs) u):=fun u k=> ⟨by rw [HCB.out];exact (HW2.out.kept k).c2,(k.cell ho2.1).trans ho2.2.1,by
    have h:= (HW2.out.kept k).caus.look hnz
    dsimp only at h
    rw [X2.out] at h
    exact h⟩
   clear hM2 hT2 ho2 hnz htb
   go_wp2_with fail
   refine Qx.region (by kernel_rfl) (fun u=> u.cell? ⟨cb,2,none⟩=some (.map (some c.qb))∧u.cell? ⟨tb,0,none⟩=some (.string nm)∧(Instr.lookup 130 (.map (some c.qb)) (.string nm) false).run Tryz.prog u= .ok (.int .i64 cs) u) 12 (Zz.out _ (K_.refl w2).drew) (fun Z_=> ?_)
   have KD:K_ w2 w2.drew:= (K_.refl w2).drew
   generalize hwd:w2.drew=wd at Z_ KD⊢
   clear hwd
   refine Qx.take 0 [12] (v:= ?_) (by (simp only [List.getElem?_toArray,List.getElem?_cons_zero];rfl)) (by kernel_rfl) (by kernel_rfl) (by kernel_rfl) (by kernel_rfl) (by exact fun _ _ _ h=> h) (Or.inl ⟨by rfl, ?_⟩) Z_ ?_
   rotate_left
   ·intro u hu
    obtain ⟨hu1,hu2,hu3⟩:=hu
    go_simp
    try with_reducible rfl
   try simp only [Act.put,upA,upB,upC]
   refine Qx.take 1 [12] (v:= ?_) (by (simp only [List.getElem?_toArray,List.getElem?_cons_succ,List.getElem?_cons_zero];rfl)) (by kernel_rfl) (by kernel_rfl) (by kernel_rfl) (by kernel_rfl) (by exact fun _ _ _ h=> h) (Or.inl ⟨by rfl, ?_⟩) Z_ ?_
   rotate_left
   ·intro u hu
    obtain ⟨hu1,hu2,hu3⟩:=hu
    go_simp
    try with_reducible rfl
   try simp only [Act.put,upA,upB,upC]
   refine Qx.take 2 [3,4,5,11,12] (v:= ?_) (by (simp only [List.getElem?_toArray,List.getElem?_cons_succ,List.getElem?_cons_zero];rfl)) (by kernel_rfl) (by kernel_rfl) (by kernel_rfl) (by kernel_rfl) (by exact fun _ _ _ h=> h) (Or.inl ⟨by rfl, ?_⟩) Z_ ?_
   rotate_left
   ·intro u hu
    obtain ⟨hu1,hu2,hu3⟩:=hu
    go_simp
    try with_reducible rfl
   try simp only [Act.put,upA,upB,upC]
   refine Qx.take 3 [4,5,11,12] (v:= ?_) (by (simp only [List.getElem?_toArray,List.getElem?_cons_succ,List.getElem?_cons_zero];rfl)) (by kernel_rfl) (by kernel_rfl) (by kernel_rfl) (by kernel_rfl) (by exact fun _ _ _ h=> h) (Or.inl ⟨by rfl, ?_⟩) Z_ ?_
   rotate_left
   ·intro u hu
    obtain ⟨hu1,hu2,hu3⟩:=hu
    go_simp
    try with_reducible rfl
   try simp only [Act.put,upA,upB,upC]
   refine Qx.take 4 [5,11,12] (v:= ?_) (by (simp only [List.getElem?_toArray,List.getElem?_cons_succ,List.getElem?_cons_zero];rfl)) (by kernel_rfl) (by kernel_rfl) (by kernel_rfl) (by kernel_rfl) (by exact fun _ _ _ h=> h) (Or.inl ⟨by rfl, ?_⟩) Z_ ?_
   rotate_left
   ·intro u hu
    obtain ⟨hu1,hu2,hu3⟩:=hu
    go_simp
    try with_reducible rfl
   try simp only [Act.put,upA,upB,upC]
   refine Qx.take 5 [11,12] (v:= ?_) (by (simp only [List.getElem?_toArray,List.getElem?_cons_succ,List.getElem?_cons_zero];rfl)) (by kernel_rfl) (by kernel_rfl) (by kernel_rfl) (by kernel_rfl) (by exact fun _ _ _ h=> h) (Or.inl ⟨by rfl, ?_⟩) Z_ ?_
   rotate_left
   ·intro u hu
    obtain ⟨hu1,hu2,hu3⟩:=hu
    go_simp
    try with_reducible rfl
   try simp only [Act.put,upA,upB,upC]
   refine Qx.take 6 [7,8,9,10,11,12] (v:= ?_) (by (simp only [List.getElem?_toArray,List.getElem?_cons_succ,List.getElem?_cons_zero];rfl)) (by kernel_rfl) (by kernel_rfl) (by kernel_rfl) (by kernel_rfl) (by exact fun _ _ _ h=> h) (Or.inl ⟨by rfl, ?_⟩) Z_ ?_
   rotate_left
   ·intro u hu
    obtain ⟨hu1,hu2,hu3⟩:=hu
    go_simp
    try with_reducible rfl
   try simp only [Act.put,upA,upB,upC]
   refine Qx.take 7 [8,9,10,11,12] (v:= ?_) (by (simp only [List.getElem?_toArray,List.getElem?_cons_succ,List.getElem?_cons_zero];rfl)) (by kernel_rfl) (by kernel_rfl) (by kernel_rfl) (by kernel_rfl) (by exact fun _ _ _ h=> h) (Or.inl ⟨by rfl, ?_⟩) Z_ ?_
   rotate_left
   ·intro u hu
    obtain ⟨hu1,hu2,hu3⟩:=hu
    go_simp
    try with_reducible rfl
   try simp only [Act.put,upA,upB,upC]
   refine Qx.take 8 [9,10,11,12] (v:= ?_) (by (simp only [List.getElem?_toArray,List.getElem?_cons_succ,List.getElem?_cons_zero];rfl)) (by kernel_rfl) (by kernel_rfl) (by kernel_rfl) (by kernel_rfl) (by exact fun _ _ _ h=> h) (Or.inl ⟨by rfl, ?_⟩) Z_ ?_
   rotate_left
   ·intro u hu
    obtain ⟨hu1,hu2,hu3⟩:=hu
    go_simp
    try with_reducible rfl
   try simp only [Act.put,upA,upB,upC]
   refine Qx.take 9 [10,11,12] (v:= ?_) (by (simp only [List.getElem?_toArray,List.getElem?_cons_succ,List.getElem?_cons_zero];rfl)) (by kernel_rfl) (by kernel_rfl) (by kernel_rfl) (by kernel_rfl) (by exact fun _ _ _ h=> h) (Or.inl ⟨by rfl, ?_⟩) Z_ ?_
   rotate_left
   ·intro u hu
    obtain ⟨hu1,hu2,hu3⟩:=hu
    go_simp
    try with_reducible rfl
   try simp only [Act.put,upA,upB,upC]
   refine Qx.take 10 [11,12] (v:= ?_) (by (simp only [List.getElem?_toArray,List.getElem?_cons_succ,List.getElem?_cons_zero];rfl)) (by kernel_rfl) (by kernel_rfl) (by kernel_rfl) (by kernel_rfl) (by exact fun _ _ _ h=> h) (Or.inl ⟨by rfl, ?_⟩) Z_ ?_
   rotate_left
   ·intro u hu
    obtain ⟨hu1,hu2,hu3⟩:=hu
    go_simp
    try with_reducible rfl
   try simp only [Act.put,upA,upB,upC]
   refine Qx.take 11 [12] (v:= ?_) (by (simp only [List.getElem?_toArray,List.getElem?_cons_succ,List.getElem?_cons_zero];rfl)) (by kernel_rfl) (by kernel_rfl) (by kernel_rfl) (by kernel_rfl) (by exact fun _ _ _ h=> h) (Or.inl ⟨by rfl, ?_⟩) Z_ ?_
   rotate_left
   ·intro u hu
    obtain ⟨hu1,hu2,hu3⟩:=hu
    go_simp
    try with_reducible rfl
   try simp only [Act.put,upA,upB,upC]
   have hdo:=crewDo_any (S:=S1) (n:=nm) (j:=cs) (HW2.out.kept KD) HB1.out.i.bs HB1.out.i.run X5.out HB1.out.i.loc HB1.out.i.sn HK.out X3.out X4.out (by rw [HCs.out];exact HB1.out.i.pl.sane.caus nm) (by have:=HB1.out.b1;omega) (by have:=HB1.out.b2;omega)
   dsimp only at hdo
   rw [<-HCB.out,<-HTb.out] at hdo
   have HDo:=Kz hdo
   clear hdo
   refine Qx.nx 12 (fun K hK=> ?_)
   rw [if_pos (by rfl)]
   go_simp
   go_at_call 121
   refine HDo.out.mono ?_
   rintro e w5 ⟨rfl,D5,hI5,he5⟩
   have HI5:=Kz hI5
   have HE5:=Kz he5
   clear hI5 he5
   dsimp only
   refine hK.out _ _ (fun h=> absurd rfl h) ?_
   clear hK K Z_
   try simp only [Act.put,upA,upB,upC]
   refine Qx.dn ?_
   go_wp2_with fail
   have hpot:=potS_done (S0:=S1) (j:=cs) HB1.out.i rfl X3.out
   go_roundg (potS c (doneS (Q_ c.Kj) S1 nm cs))
   case measure=> have h1:=Hgg.out;omega
   case rel=>
    refine ⟨_,mx1+6,mq1+60,D5,rfl,⟨HI5.out, ?_, ?_, ?_,HB1.out.b4⟩,fun S' hS'=> HG1.out S' (.go X1.out (by rw [<-HCs.out];exact hS')),HS1.out,HZ1.out,(by have:=HP1.out;exact Nat.le_trans (Nat.le_of_lt hpot) this)⟩
    ·have:=HB1.out.b1;omega
    ·have:=HB1.out.b2;omega
    ·have h1:=HB1.out.b3;have h2:=HE5.out;show S1.slots.length+_<=_;omega
theorem HeapM.grown {α:Type} {cells:α->List Value} {w wB w1:World} {b o B:Nat} {e:TypeId} {sz:Nat} {fn:Value} {f:Nat->α} {n:Nat} {a:Option Addr} {cap g1 cap1:Nat} {x:α} (h:HeapM w b o B e sz cells fn f n a cap) (kB:K_ w wB) (hown:w1.ownsRow B e sz (.slice (some ⟨g1,0,none⟩) (n+1) cap1) (n+1) (flatH cells f n++cells x)) (hgr:wB.grownBy w1 (Value.slice a n cap).ownBlock) (hloc: (Value.slice a n cap).ownBlock=some g1∨g1=wB.heap.size):
  (HeapM (w1.setCell ⟨b,o,none⟩ (.slice (some ⟨g1,0,none⟩) (n+1) cap1)) b o B e sz cells fn (fun i=> if i=n then x else f i) (n+1) (some ⟨g1,0,none⟩) cap1∧ToH w (w1.setCell ⟨b,o,none⟩ (.slice (some ⟨g1,0,none⟩) (n+1) cap1)) b o a n cap (some ⟨g1,0,none⟩) (n+1) cap1)∧w1.frozen? ⟨b,o,none⟩=false∧w1.cell? ⟨b,o,none⟩=some (.slice a n cap)∧But (fun z=> (Value.slice a n cap).ownBlock=some z) w w1:=by
 obtain ⟨t0,m0,hr0,hm0⟩:=h.blk
 have hbl:=h.lt
 have kk:But (fun z=> (Value.slice a n cap).ownBlock=some z) w w1:= (But.of_kept kB).trans (.of_grown hgr (fun _ h=> h))
 have hsz:=kB.size
 have hne: (Value.slice (some ⟨g1,0,none⟩) (n+1) cap1).ownBlock≠some b:=fun e=> by
  have e1:g1=b:=by injection e
  rcases hloc with e2 | e2
  ·exact h.ne (by rw [e2,e1])
  ·omega
 have ho:w1.ownsRow B e sz (.slice (some ⟨g1,0,none⟩) (n+1) cap1) (n+1) (flatH cells (fun i=> if i=n then x else f i) (n+1)):=by
  have e1:flatH cells (fun i=> if i=n then x else f i) (n+1)=flatH cells f n++cells x:=by
   simp only [flatH,if_true]
   rw [flatH_congr (fun i hi=> by rw [if_neg (by omega)])]
  rw [e1]
  exact hown
 obtain ⟨j1,j2,j3,j4⟩:=h.told kk ho hne
 have hr1:=kk.row hr0 h.ne
 obtain ⟨_,f0⟩:=hr1.row.at (i:=o) (by omega)
 refine ⟨⟨j1,j2,j3,j4,fun z hz=> ?_⟩,f0,(kk.cell hbl h.ne).trans h.c0,kk⟩
 have e1:g1=z:=by injection hz
 subst e1
 rcases hloc with e2 | e2
 ·exact .inl e2
 ·exact .inr (by omega)
section
variable {c : CrewC} {mx mq n : Nat} {D : CrewD} {w w' : World}
theorem CrewW.effH (h:CrewW c mx mq n D w):HeapM w c.cb 1 c.wz.heap.size 147 7 (effC D.loc) (.map (some c.qb)) D.es n D.ea D.ec:=CrewM.heap h (i:=0) rfl h.c2 (by omega) (eff_one' _) (fun _=> rfl)
theorem CrewW.effT {n':Nat} (h:CrewW c mx mq n D w) {es:Nat->EffX} {ea:Option Addr} {ec:Nat} {fn:Value} (hM:HeapM w' c.cb 1 c.wz.heap.size 147 7 (effC D.loc) fn es n' ea ec) (hT:ToH w w' c.cb 1 D.ea n D.ec ea n' ec):CrewW c mx mq n' { D with es:=es,ea:=ea,ec:=ec } w':=CrewM.heapTurn h (i:=0) rfl hM hT
end
theorem crewBegin_any {c:CrewC} {mx mq sl:Nat} {D:CrewD} {w:World} {n:ByteArray} {k:Nat} {t cs:Int} (hm:CrewW c mx mq sl D w) (hg:D.g n=some cs) (hok: ∀u,But (KB c.cb c.qb (D.rows sl)) w u->OkT (Q_ c.Kj) D.loc n u∧∀y,MemH D.eF D.en y->OkE D.loc y u) (hnz:n.size<=maxLen) (ht:0<=t∧t<=1000000) (hc:0<=costW (Q_ c.Kj) n∧costW (Q_ c.Kj) n<=20) (hsl:sl < 1000000) (hen:D.en < 1000000):
  Calls Tryz.prog 125 #[.pointer (some ⟨c.cb,0,none⟩),.pointer (some ⟨D.loc n,0,none⟩),.int .i64 (k:Int),.int .i64 t] w fun e w'=> e= .returned (.tuple #[])∧∃ea ec xa xc,CrewW c mx mq (sl+1) { D with es:= (fun p=> if p=sl then ⟨t,(k:Int),n,t+costW (Q_ c.Kj) n,(sl:Int),cs⟩ else D.es p),ea:=ea,ec:=ec,eF:=putF aheadE D.eF D.en ⟨t,(k:Int),n,t+costW (Q_ c.Kj) n,(sl:Int),cs⟩,en:=D.en+1,xa:=xa,xc:=xc } w':=by
 obtain ⟨ie,hi0,hi1,hi2,hi3⟩:=info_parts Tryz.infoEff
 obtain ⟨cb,hcb⟩: ∃cb,cb=c.cb:= ⟨_,rfl⟩
 obtain ⟨tb,htb⟩: ∃tb,tb=D.loc n:= ⟨_,rfl⟩
 obtain ⟨co,hco⟩: ∃co,co=costW (Q_ c.Kj) n:= ⟨_,rfl⟩
 have hk0:= (hok w (.of_kept (K_.refl w))).1
 have Zz:Hid (∀u,K_ w u->u.cell? ⟨tb,0,none⟩=some (.string n)∧u.cell? ⟨tb,7,none⟩=some (.int .i64 co)∧u.cell? ⟨cb,1,none⟩=some (.slice D.ea sl D.ec)∧u.cell? ⟨cb,2,none⟩=some (.map (some c.qb))∧(Instr.lookup 130 (.map (some c.qb)) (.string n) false).run Tryz.prog u= .ok (.int .i64 cs) u):=fun u ku=> by
  rw [hcb,htb,hco]
  refine ⟨(ku.cell hk0.1).trans hk0.2.1,(ku.cell hk0.1).trans hk0.2.2,(hm.kept ku).effH.c0,(hm.kept ku).c2, ?_⟩
  have h:= (hm.kept ku).caus.look hnz
  rw [hg] at h
  exact h
 rw [<-hco] at hc
 have hadd:IntKind.i64.wrap (t+co)=t+co:=wrap_i64_in (by omega) (by omega)
 rw [<-hcb,<-htb,<-hco]
 have HCB:=Kz hcb
 have HTb:=Kz htb
 have HCo:=Kz hco
 have HM:=Kz hm
 have HOk:=Kz hok
 have HNz:=Kz hnz
 have hbl:cb < w.heap.size:=by rw [hcb];exact hm.row.lt
 clear hcb htb hco hm hok hnz hg hk0
 go_enter Tryz.func125,Tryz.ntmps125
 go_wp2_with fail
 refine Qx.region (by kernel_rfl) (fun u=> u.cell? ⟨tb,0,none⟩=some (.string n)∧u.cell? ⟨tb,7,none⟩=some (.int .i64 co)∧u.cell? ⟨cb,1,none⟩=some (.slice D.ea sl D.ec)∧u.cell? ⟨cb,2,none⟩=some (.map (some c.qb))∧(Instr.lookup 130 (.map (some c.qb)) (.string n) false).run Tryz.prog u= .ok (.int .i64 cs) u) 33 (Zz.out _ (K_.refl w).drew) (fun Z_=> ?_)
 have KD:K_ w w.drew:= (K_.refl w).drew
 generalize hwd:w.drew=wd at Z_ KD⊢
 clear hwd
 refine Qx.take 0 [7,31,33] (v:= ?_) (by (simp only [List.getElem?_toArray,List.getElem?_cons_zero];rfl)) (by kernel_rfl) (by kernel_rfl) (by kernel_rfl) (by kernel_rfl) (by exact fun _ _ _ h=> h) (Or.inl ⟨by rfl, ?_⟩) Z_ ?_
 rotate_left
 ·intro u hu
  obtain ⟨hu1,hu2,hu3,hu4,hu5⟩:=hu
  go_simp
  try with_reducible rfl
 try simp only [Act.put,upA,upB,upC]
 refine Qx.take 1 [7,31,33] (v:= ?_) (by (simp only [List.getElem?_toArray,List.getElem?_cons_succ,List.getElem?_cons_zero];rfl)) (by kernel_rfl) (by kernel_rfl) (by kernel_rfl) (by kernel_rfl) (by exact fun _ _ _ h=> h) (Or.inl ⟨by rfl, ?_⟩) Z_ ?_
 rotate_left
 ·intro u hu
  obtain ⟨hu1,hu2,hu3,hu4,hu5⟩:=hu
  go_simp
  try with_reducible rfl
 try simp only [Act.put,upA,upB,upC]
 refine Qx.take 2 [3,4,5,6,7,31,33] (v:= ?_) (by (simp only [List.getElem?_toArray,List.getElem?_cons_succ,List.getElem?_cons_zero];rfl)) (by kernel_rfl) (by kernel_rfl) (by kernel_rfl) (by kernel_rfl) (by exact fun _ _ _ h=> h) (Or.inl ⟨by rfl, ?_⟩) Z_ ?_
 rotate_left
 ·intro u hu
  obtain ⟨hu1,hu2,hu3,hu4,hu5⟩:=hu
  go_simp
  try with_reducible rfl
 try simp only [Act.put,upA,upB,upC]
 refine Qx.take 3 [4,5,6,7,31,33] (v:= ?_) (by (simp only [List.getElem?_toArray,List.getElem?_cons_succ,List.getElem?_cons_zero];rfl)) (by kernel_rfl) (by kernel_rfl) (by kernel_rfl) (by kernel_rfl) (by exact fun _ _ _ h=> h) (Or.inl ⟨by rfl, ?_⟩) Z_ ?_
 rotate_left
 ·intro u hu
  obtain ⟨hu1,hu2,hu3,hu4,hu5⟩:=hu
  go_simp
  try with_reducible rfl
 try simp only [Act.put,upA,upB,upC]
 refine Qx.take 4 [5,6,7,31,33] (v:= ?_) (by (simp only [List.getElem?_toArray,List.getElem?_cons_succ,List.getElem?_cons_zero];rfl)) (by kernel_rfl) (by kernel_rfl) (by kernel_rfl) (by kernel_rfl) (by exact fun _ _ _ h=> h) (Or.inl ⟨by rfl, ?_⟩) Z_ ?_
 rotate_left
 ·intro u hu
  obtain ⟨hu1,hu2,hu3,hu4,hu5⟩:=hu
  go_simp
  try with_reducible rfl
 try simp only [Act.put,upA,upB,upC]
 refine Qx.take 5 [6,7,31,33] (v:= ?_) (by (simp only [List.getElem?_toArray,List.getElem?_cons_succ,List.getElem?_cons_zero];rfl)) (by kernel_rfl) (by kernel_rfl) (by kernel_rfl) (by kernel_rfl) (by exact fun _ _ _ h=> h) (Or.inl ⟨by rfl, ?_⟩) Z_ ?_
 rotate_left
 ·intro u hu
  obtain ⟨hu1,hu2,hu3,hu4,hu5⟩:=hu
  go_simp
  try with_reducible rfl
 try simp only [Act.put,upA,upB,upC]
 refine Qx.take 6 [7,31,33] (v:= ?_) (by (simp only [List.getElem?_toArray,List.getElem?_cons_succ,List.getElem?_cons_zero];rfl)) (by kernel_rfl) (by kernel_rfl) (by kernel_rfl) (by kernel_rfl) (by exact fun _ _ _ h=> h) (Or.inl ⟨by rfl, ?_⟩) Z_ ?_
 rotate_left
 ·intro u hu
  obtain ⟨hu1,hu2,hu3,hu4,hu5⟩:=hu
  go_simp
  try with_reducible rfl
 try simp only [Act.put,upA,upB,upC]
 refine Qx.take 7 [31,33] (v:= ?_) (by (simp only [List.getElem?_toArray,List.getElem?_cons_succ,List.getElem?_cons_zero];rfl)) (by kernel_rfl) (by kernel_rfl) (by kernel_rfl) (by kernel_rfl) (by exact fun _ _ _ h=> h) (Or.inl ⟨by rfl, ?_⟩) Z_ ?_
 rotate_left
 ·intro u hu
  obtain ⟨hu1,hu2,hu3,hu4,hu5⟩:=hu
  go_simp
  try with_reducible rfl
 try simp only [Act.put,upA,upB,upC]
 refine Qx.take 8 [31,33] (v:= ?_) (by (simp only [List.getElem?_toArray,List.getElem?_cons_succ,List.getElem?_cons_zero];rfl)) (by kernel_rfl) (by kernel_rfl) (by kernel_rfl) (by kernel_rfl) (by exact fun _ _ _ h=> h) (Or.inl ⟨by rfl, ?_⟩) Z_ ?_
 rotate_left
 ·intro u hu
  obtain ⟨hu1,hu2,hu3,hu4,hu5⟩:=hu
  go_simp
  try with_reducible rfl
 try simp only [Act.put,upA,upB,upC]
 refine Qx.take 9 [15,31,33] (v:= ?_) (by (simp only [List.getElem?_toArray,List.getElem?_cons_succ,List.getElem?_cons_zero];rfl)) (by kernel_rfl) (by kernel_rfl) (by kernel_rfl) (by kernel_rfl) (by exact fun _ _ _ h=> h) (Or.inl ⟨by rfl, ?_⟩) Z_ ?_
 rotate_left
 ·intro u hu
  obtain ⟨hu1,hu2,hu3,hu4,hu5⟩:=hu
  go_simp
  try with_reducible rfl
 try simp only [Act.put,upA,upB,upC]
 refine Qx.take 10 [11,12,13,14,15,31,33] (v:= ?_) (by (simp only [List.getElem?_toArray,List.getElem?_cons_succ,List.getElem?_cons_zero];rfl)) (by kernel_rfl) (by kernel_rfl) (by kernel_rfl) (by kernel_rfl) (by exact fun _ _ _ h=> h) (Or.inl ⟨by rfl, ?_⟩) Z_ ?_
 rotate_left
 ·intro u hu
  obtain ⟨hu1,hu2,hu3,hu4,hu5⟩:=hu
  go_simp
  try with_reducible rfl
 try simp only [Act.put,upA,upB,upC]
 refine Qx.take 11 [12,13,14,15,31,33] (v:= ?_) (by (simp only [List.getElem?_toArray,List.getElem?_cons_succ,List.getElem?_cons_zero];rfl)) (by kernel_rfl) (by kernel_rfl) (by kernel_rfl) (by kernel_rfl) (by exact fun _ _ _ h=> h) (Or.inl ⟨by rfl, ?_⟩) Z_ ?_
 rotate_left
 ·intro u hu
  obtain ⟨hu1,hu2,hu3,hu4,hu5⟩:=hu
  go_simp
  try with_reducible rfl
 try simp only [Act.put,upA,upB,upC]
 refine Qx.take 12 [13,14,15,31,33] (v:= ?_) (by (simp only [List.getElem?_toArray,List.getElem?_cons_succ,List.getElem?_cons_zero];rfl)) (by kernel_rfl) (by kernel_rfl) (by kernel_rfl) (by kernel_rfl) (by exact fun _ _ _ h=> h) (Or.inl ⟨by rfl, ?_⟩) Z_ ?_
 rotate_left
 ·intro u hu
  obtain ⟨hu1,hu2,hu3,hu4,hu5⟩:=hu
  go_simp
  try with_reducible rfl
 try simp only [Act.put,upA,upB,upC]
 refine Qx.take 13 [14,15,31,33] (v:= ?_) (by (simp only [List.getElem?_toArray,List.getElem?_cons_succ,List.getElem?_cons_zero];rfl)) (by kernel_rfl) (by kernel_rfl) (by kernel_rfl) (by kernel_rfl) (by exact fun _ _ _ h=> h) (Or.inl ⟨by rfl, ?_⟩) Z_ ?_
 rotate_left
 ·intro u hu
  obtain ⟨hu1,hu2,hu3,hu4,hu5⟩:=hu
  go_simp
  try with_reducible rfl
 try simp only [Act.put,upA,upB,upC]
 refine Qx.take 14 [15,31,33] (v:= ?_) (by (simp only [List.getElem?_toArray,List.getElem?_cons_succ,List.getElem?_cons_zero];rfl)) (by kernel_rfl) (by kernel_rfl) (by kernel_rfl) (by kernel_rfl) (by exact fun _ _ _ h=> h) (Or.inl ⟨by rfl, ?_⟩) Z_ ?_
 rotate_left
 ·intro u hu
  obtain ⟨hu1,hu2,hu3,hu4,hu5⟩:=hu
  go_simp
  try with_reducible rfl
 try simp only [Act.put,upA,upB,upC]
 refine Qx.take 15 [31,33] (v:= ?_) (by (simp only [List.getElem?_toArray,List.getElem?_cons_succ,List.getElem?_cons_zero];rfl)) (by kernel_rfl) (by kernel_rfl) (by kernel_rfl) (by kernel_rfl) (by exact fun _ _ _ h=> h) (Or.inl ⟨by rfl, ?_⟩) Z_ ?_
 rotate_left
 ·intro u hu
  obtain ⟨hu1,hu2,hu3,hu4,hu5⟩:=hu
  go_simp
  try with_reducible rfl
 try simp only [Act.put,upA,upB,upC]
 refine Qx.take 16 [17,18,19,20,31,33] (v:= ?_) (by (simp only [List.getElem?_toArray,List.getElem?_cons_succ,List.getElem?_cons_zero];rfl)) (by kernel_rfl) (by kernel_rfl) (by kernel_rfl) (by kernel_rfl) (by exact fun _ _ _ h=> h) (Or.inl ⟨by rfl, ?_⟩) Z_ ?_
 rotate_left
 ·intro u hu
  obtain ⟨hu1,hu2,hu3,hu4,hu5⟩:=hu
  go_simp
  try with_reducible rfl
 try simp only [Act.put,upA,upB,upC]
 refine Qx.take 17 [18,19,20,31,33] (v:= ?_) (by (simp only [List.getElem?_toArray,List.getElem?_cons_succ,List.getElem?_cons_zero];rfl)) (by kernel_rfl) (by kernel_rfl) (by kernel_rfl) (by kernel_rfl) (by exact fun _ _ _ h=> h) (Or.inl ⟨by rfl, ?_⟩) Z_ ?_
 rotate_left
 ·intro u hu
  obtain ⟨hu1,hu2,hu3,hu4,hu5⟩:=hu
  go_simp
  try with_reducible rfl
 try simp only [Act.put,upA,upB,upC]
 refine Qx.take 18 [19,20,31,33] (v:= ?_) (by (simp only [List.getElem?_toArray,List.getElem?_cons_succ,List.getElem?_cons_zero];rfl)) (by kernel_rfl) (by kernel_rfl) (by kernel_rfl) (by kernel_rfl) (by exact fun _ _ _ h=> h) (Or.inl ⟨by rfl, ?_⟩) Z_ ?_
 rotate_left
 ·intro u hu
  obtain ⟨hu1,hu2,hu3,hu4,hu5⟩:=hu
  go_simp
  try with_reducible rfl
 try simp only [Act.put,upA,upB,upC]
 refine Qx.take 19 [20,31,33] (v:= ?_) (by (simp only [List.getElem?_toArray,List.getElem?_cons_succ,List.getElem?_cons_zero];rfl)) (by kernel_rfl) (by kernel_rfl) (by kernel_rfl) (by kernel_rfl) (by exact fun _ _ _ h=> h) (Or.inl ⟨by rfl, ?_⟩) Z_ ?_
 rotate_left
 ·intro u hu
  obtain ⟨hu1,hu2,hu3,hu4,hu5⟩:=hu
  go_simp
  try with_reducible rfl
 try simp only [Act.put,upA,upB,upC]
 refine Qx.take 20 [31,33] (v:= ?_) (by (simp only [List.getElem?_toArray,List.getElem?_cons_succ,List.getElem?_cons_zero];rfl)) (by kernel_rfl) (by kernel_rfl) (by kernel_rfl) (by kernel_rfl) (by exact fun _ _ _ h=> h) (Or.inl ⟨by rfl, ?_⟩) Z_ ?_
 rotate_left
 ·intro u hu
  obtain ⟨hu1,hu2,hu3,hu4,hu5⟩:=hu
  go_simp
  try with_reducible rfl
 try simp only [Act.put,upA,upB,upC]
 refine Qx.take 21 [22,23,24,30,31,33] (v:= ?_) (by (simp only [List.getElem?_toArray,List.getElem?_cons_succ,List.getElem?_cons_zero];rfl)) (by kernel_rfl) (by kernel_rfl) (by kernel_rfl) (by kernel_rfl) (by exact fun _ _ _ h=> h) (Or.inl ⟨by rfl, ?_⟩) Z_ ?_
 rotate_left
 ·intro u hu
  obtain ⟨hu1,hu2,hu3,hu4,hu5⟩:=hu
  go_simp
  try with_reducible rfl
 try simp only [Act.put,upA,upB,upC]
 refine Qx.take 22 [23,24,30,31,33] (v:= ?_) (by (simp only [List.getElem?_toArray,List.getElem?_cons_succ,List.getElem?_cons_zero];rfl)) (by kernel_rfl) (by kernel_rfl) (by kernel_rfl) (by kernel_rfl) (by exact fun _ _ _ h=> h) (Or.inl ⟨by rfl, ?_⟩) Z_ ?_
 rotate_left
 ·intro u hu
  obtain ⟨hu1,hu2,hu3,hu4,hu5⟩:=hu
  go_simp
  try with_reducible rfl
 try simp only [Act.put,upA,upB,upC]
 refine Qx.take 23 [24,30,31,33] (v:= ?_) (by (simp only [List.getElem?_toArray,List.getElem?_cons_succ,List.getElem?_cons_zero];rfl)) (by kernel_rfl) (by kernel_rfl) (by kernel_rfl) (by kernel_rfl) (by exact fun _ _ _ h=> h) (Or.inl ⟨by rfl, ?_⟩) Z_ ?_
 rotate_left
 ·intro u hu
  obtain ⟨hu1,hu2,hu3,hu4,hu5⟩:=hu
  go_simp
  try with_reducible rfl
 try simp only [Act.put,upA,upB,upC]
 refine Qx.take 24 [30,31,33] (v:= ?_) (by (simp only [List.getElem?_toArray,List.getElem?_cons_succ,List.getElem?_cons_zero];rfl)) (by kernel_rfl) (by kernel_rfl) (by kernel_rfl) (by kernel_rfl) (by exact fun _ _ _ h=> h) (Or.inl ⟨by rfl, ?_⟩) Z_ ?_
 rotate_left
 ·intro u hu
  obtain ⟨hu1,hu2,hu3,hu4,hu5⟩:=hu
  go_simp
  try with_reducible rfl
 try simp only [Act.put,upA,upB,upC]
 refine Qx.take 25 [26,27,28,29,30,31,33] (v:= ?_) (by (simp only [List.getElem?_toArray,List.getElem?_cons_succ,List.getElem?_cons_zero];rfl)) (by kernel_rfl) (by kernel_rfl) (by kernel_rfl) (by kernel_rfl) (by exact fun _ _ _ h=> h) (Or.inl ⟨by rfl, ?_⟩) Z_ ?_
 rotate_left
 ·intro u hu
  obtain ⟨hu1,hu2,hu3,hu4,hu5⟩:=hu
  go_simp
  try with_reducible rfl
 try simp only [Act.put,upA,upB,upC]
 refine Qx.take 26 [27,28,29,30,31,33] (v:= ?_) (by (simp only [List.getElem?_toArray,List.getElem?_cons_succ,List.getElem?_cons_zero];rfl)) (by kernel_rfl) (by kernel_rfl) (by kernel_rfl) (by kernel_rfl) (by exact fun _ _ _ h=> h) (Or.inl ⟨by rfl, ?_⟩) Z_ ?_
 rotate_left
 ·intro u hu
  obtain ⟨hu1,hu2,hu3,hu4,hu5⟩:=hu
  go_simp
  try with_reducible rfl
 try simp only [Act.put,upA,upB,upC]
 refine Qx.take 27 [28,29,30,31,33] (v:= ?_) (by (simp only [List.getElem?_toArray,List.getElem?_cons_succ,List.getElem?_cons_zero];rfl)) (by kernel_rfl) (by kernel_rfl) (by kernel_rfl) (by kernel_rfl) (by exact fun _ _ _ h=> h) (Or.inl ⟨by rfl, ?_⟩) Z_ ?_
 rotate_left
 ·intro u hu
  obtain ⟨hu1,hu2,hu3,hu4,hu5⟩:=hu
  go_simp
  try with_reducible rfl
 try simp only [Act.put,upA,upB,upC]
 refine Qx.take 28 [29,30,31,33] (v:= ?_) (by (simp only [List.getElem?_toArray,List.getElem?_cons_succ,List.getElem?_cons_zero];rfl)) (by kernel_rfl) (by kernel_rfl) (by kernel_rfl) (by kernel_rfl) (by exact fun _ _ _ h=> h) (Or.inl ⟨by rfl, ?_⟩) Z_ ?_
 rotate_left
 ·intro u hu
  obtain ⟨hu1,hu2,hu3,hu4,hu5⟩:=hu
  go_simp
  try with_reducible rfl
 try simp only [Act.put,upA,upB,upC]
 refine Qx.take 29 [30,31,33] (v:= ?_) (by (simp only [List.getElem?_toArray,List.getElem?_cons_succ,List.getElem?_cons_zero];rfl)) (by kernel_rfl) (by kernel_rfl) (by kernel_rfl) (by kernel_rfl) (by exact fun _ _ _ h=> h) (Or.inl ⟨by rfl, ?_⟩) Z_ ?_
 rotate_left
 ·intro u hu
  obtain ⟨hu1,hu2,hu3,hu4,hu5⟩:=hu
  go_simp
  try with_reducible rfl
 try simp only [Act.put,upA,upB,upC]
 refine Qx.take 30 [31,33] (v:= ?_) (by (simp only [List.getElem?_toArray,List.getElem?_cons_succ,List.getElem?_cons_zero];rfl)) (by kernel_rfl) (by kernel_rfl) (by kernel_rfl) (by kernel_rfl) (by exact fun _ _ _ h=> h) (Or.inl ⟨by rfl, ?_⟩) Z_ ?_
 rotate_left
 ·intro u hu
  obtain ⟨hu1,hu2,hu3,hu4,hu5⟩:=hu
  go_simp
  try with_reducible rfl
 try simp only [Act.put,upA,upB,upC]
 refine Qx.take 31 [33] (v:= ?_) (by (simp only [List.getElem?_toArray,List.getElem?_cons_succ,List.getElem?_cons_zero];rfl)) (by kernel_rfl) (by kernel_rfl) (by kernel_rfl) (by kernel_rfl) (by exact fun _ _ _ h=> h) (Or.inl ⟨by rfl, ?_⟩) Z_ ?_
 rotate_left
 ·intro u hu
  obtain ⟨hu1,hu2,hu3,hu4,hu5⟩:=hu
  go_simp
  try with_reducible rfl
 try simp only [Act.put,upA,upB,upC]
 refine Qx.nx 32 (fun K hK=> ?_)
 go_simp
 refine hK.out _ _ (fun _=> Zz.out _ (KD.alloc _)) ?_
 clear hK K Z_
 try simp only [Act.put,upA,upB,upC]
 refine Qx.nx 33 (fun K hK=> ?_)
 rw [if_pos (by rfl)]
 go_simp
 refine hK.out _ _ (fun h=> absurd rfl h) ?_
 clear hK K
 try simp only [Act.put,upA,upB,upC]
 refine Qx.dn ?_
 go_wp2_with fail
 have KE:K_ w (wd.alloc (.cells #[.int .i64 t,.int .i64 (k:Int),.string n,.pointer (some ⟨tb,0,none⟩),.int .i64 (t+co),.int .i64 (sl:Int),.int .i64 cs] 147)):=KD.alloc _
 obtain ⟨W1,hW1⟩: ∃W1,W1=wd.alloc (.cells #[.int .i64 t,.int .i64 (k:Int),.string n,.pointer (some ⟨tb,0,none⟩),.int .i64 (t+co),.int .i64 (sl:Int),.int .i64 cs] 147):= ⟨_,rfl⟩
 obtain ⟨eb,heb⟩: ∃eb,eb=wd.heap.size:= ⟨_,rfl⟩
 have hrg:=Xz wd #[.int .i64 t,.int .i64 (k:Int),.string n,.pointer (some ⟨tb,0,none⟩),.int .i64 (t+co),.int .i64 (sl:Int),.int .i64 cs] 147
 have heb1:eb < W1.heap.size:=by rw [heb,hW1];simp
 have heb0:w.heap.size<=eb:=by rw [heb];exact KD.size
 rw [<-hW1] at hrg KE⊢
 rw [<-heb] at hrg⊢
 have HCE:Hid (∀u:World,(∀j,u.cell? ⟨eb,j,none⟩=W1.cell? ⟨eb,j,none⟩)->u.cell? ⟨eb,0,none⟩=some (.int .i64 t)∧u.cell? ⟨eb,1,none⟩=some (.int .i64 (k:Int))∧u.cell? ⟨eb,2,none⟩=some (.string n)∧u.cell? ⟨eb,3,none⟩=some (.pointer (some ⟨tb,0,none⟩))∧u.cell? ⟨eb,4,none⟩=some (.int .i64 (t+co))∧u.cell? ⟨eb,5,none⟩=some (.int .i64 (sl:Int))∧u.cell? ⟨eb,6,none⟩=some (.int .i64 cs)):=fun u hu=> by
  have g0:= (hu 0).trans (hrg 0 _ rfl)
  have g1:= (hu 1).trans (hrg 1 _ rfl)
  have g2:= (hu 2).trans (hrg 2 _ rfl)
  have g3:= (hu 3).trans (hrg 3 _ rfl)
  have g4:= (hu 4).trans (hrg 4 _ rfl)
  have g5:= (hu 5).trans (hrg 5 _ rfl)
  have g6:= (hu 6).trans (hrg 6 _ rfl)
  exact ⟨g0,g1,g2,g3,g4,g5,g6⟩
 clear hW1 heb hrg KD
 have HS1:Hid (∀u,K_ W1 u->u.cell? ⟨cb,1,none⟩=some (.slice D.ea sl D.ec)∧u.cell? ⟨eb,0,none⟩=some (.int .i64 t)∧u.cell? ⟨eb,1,none⟩=some (.int .i64 (k:Int))∧u.cell? ⟨eb,2,none⟩=some (.string n)∧u.cell? ⟨eb,3,none⟩=some (.pointer (some ⟨tb,0,none⟩))∧u.cell? ⟨eb,4,none⟩=some (.int .i64 (t+co))∧u.cell? ⟨eb,5,none⟩=some (.int .i64 (sl:Int))∧u.cell? ⟨eb,6,none⟩=some (.int .i64 cs)):=fun u ku=> ⟨((KE.trans ku).cell hbl).trans (by rw [HCB.out];exact HM.out.effH.c0),HCE.out u (fun _=> ku.cell heb1)⟩
 refine Qx.region (by kernel_rfl) (fun u=> u.cell? ⟨cb,1,none⟩=some (.slice D.ea sl D.ec)∧u.cell? ⟨eb,0,none⟩=some (.int .i64 t)∧u.cell? ⟨eb,1,none⟩=some (.int .i64 (k:Int))∧u.cell? ⟨eb,2,none⟩=some (.string n)∧u.cell? ⟨eb,3,none⟩=some (.pointer (some ⟨tb,0,none⟩))∧u.cell? ⟨eb,4,none⟩=some (.int .i64 (t+co))∧u.cell? ⟨eb,5,none⟩=some (.int .i64 (sl:Int))∧u.cell? ⟨eb,6,none⟩=some (.int .i64 cs)) 10 (HS1.out _ (K_.refl W1).drew) (fun Z_=> ?_)
 have KF:K_ W1 W1.drew:= (K_.refl W1).drew
 generalize hwf:W1.drew=wf at Z_ KF⊢
 clear hwf
 have HKB:=Kz (KF.alloc (.cells #[.int .i64 t,.int .i64 (k:Int),.string n,.pointer (some ⟨tb,0,none⟩),.int .i64 (t+co),.int .i64 (sl:Int),.int .i64 cs] 147))
 have HOw:=Kz (ownsRow_kept' HM.out.effH.row (KE.trans HKB.out))
 have HBx:Hid (∀j u,([.int .i64 t,.int .i64 (k:Int),.string n,.pointer (some ⟨tb,0,none⟩),.int .i64 (t+co),.int .i64 (sl:Int),.int .i64 cs]:List Value)[j]? =some u->(wf.alloc (.cells #[.int .i64 t,.int .i64 (k:Int),.string n,.pointer (some ⟨tb,0,none⟩),.int .i64 (t+co),.int .i64 (sl:Int),.int .i64 cs] 147)).cell? ((⟨wf.heap.size,0,none⟩:Addr).add j)=some u):=fun j u hj=> by rw [Addr.add_mid];exact Xz wf #[.int .i64 t,.int .i64 (k:Int),.string n,.pointer (some ⟨tb,0,none⟩),.int .i64 (t+co),.int .i64 (sl:Int),.int .i64 cs] 147 j u hj
 have HOne:Hid (∀u∈([.int .i64 t,.int .i64 (k:Int),.string n,.pointer (some ⟨tb,0,none⟩),.int .i64 (t+co),.int .i64 (sl:Int),.int .i64 cs]:List Value),u.oneCell'=true):=fun u hu=> by
  simp only [List.mem_cons,List.not_mem_nil,or_false] at hu
  rcases hu with rfl | rfl | rfl | rfl | rfl | rfl | rfl <;> rfl
 have HX1:Hid (sl+1<=maxLen):=by show _<=_;unfold maxLen;omega
 have HX2:Hid ((sl+1) * 64<=140737488355328):=by show _<=_;omega
 have HX3:Hid (c.wz.heap.size<=(wf.alloc (.cells #[.int .i64 t,.int .i64 (k:Int),.string n,.pointer (some ⟨tb,0,none⟩),.int .i64 (t+co),.int .i64 (sl:Int),.int .i64 cs] 147)).heap.size):=Nat.le_trans HM.out.bm.kw.size (KE.trans HKB.out).size
 refine Qx.take 0 [8,9,10] (v:= ?_) (by (simp only [List.getElem?_toArray,List.getElem?_cons_zero];rfl)) (by kernel_rfl) (by kernel_rfl) (by kernel_rfl) (by kernel_rfl) (by exact fun _ _ _ h=> h) (Or.inl ⟨by rfl, ?_⟩) Z_ ?_
 rotate_left
 ·intro u hu
  obtain ⟨hu1,a1,a2,a3,a4,a5,a6,a7⟩:=hu
  go_simp
  try with_reducible rfl
 try simp only [Act.put,upA,upB,upC]
 refine Qx.take 1 [2,3,4,7,8,9,10] (v:= ?_) (by (simp only [List.getElem?_toArray,List.getElem?_cons_succ,List.getElem?_cons_zero];rfl)) (by kernel_rfl) (by kernel_rfl) (by kernel_rfl) (by kernel_rfl) (by exact fun _ _ _ h=> h) (Or.inl ⟨by rfl, ?_⟩) Z_ ?_
 rotate_left
 ·intro u hu
  obtain ⟨hu1,a1,a2,a3,a4,a5,a6,a7⟩:=hu
  go_simp
  try with_reducible rfl
 try simp only [Act.put,upA,upB,upC]
 refine Qx.take 2 [3,4,7,8,9,10] (v:= ?_) (by (simp only [List.getElem?_toArray,List.getElem?_cons_succ,List.getElem?_cons_zero];rfl)) (by kernel_rfl) (by kernel_rfl) (by kernel_rfl) (by kernel_rfl) (by exact fun _ _ _ h=> h) (Or.inl ⟨by rfl, ?_⟩) Z_ ?_
 rotate_left
 ·intro u hu
  obtain ⟨hu1,a1,a2,a3,a4,a5,a6,a7⟩:=hu
  go_simp
  try with_reducible rfl
 try simp only [Act.put,upA,upB,upC]
 refine Qx.take 3 [4,7,8,9,10] (v:= ?_) (by (simp only [List.getElem?_toArray,List.getElem?_cons_succ,List.getElem?_cons_zero];rfl)) (by kernel_rfl) (by kernel_rfl) (by kernel_rfl) (by kernel_rfl) (by exact fun _ _ _ h=> h) (Or.inl ⟨by rfl, ?_⟩) Z_ ?_
 rotate_left
 ·intro u hu
  obtain ⟨hu1,a1,a2,a3,a4,a5,a6,a7⟩:=hu
  go_simp
  try with_reducible rfl
 try simp only [Act.put,upA,upB,upC]
 refine Qx.take 4 [7,8,9,10] (v:= ?_) (by (simp only [List.getElem?_toArray,List.getElem?_cons_succ,List.getElem?_cons_zero];rfl)) (by kernel_rfl) (by kernel_rfl) (by kernel_rfl) (by kernel_rfl) (by exact fun _ _ _ h=> h) (Or.inl ⟨by rfl, ?_⟩) Z_ ?_
 rotate_left
 ·intro u hu
  obtain ⟨hu1,a1,a2,a3,a4,a5,a6,a7⟩:=hu
  go_simp
  try with_reducible rfl
 try simp only [Act.put,upA,upB,upC]
 refine Qx.take 5 [6,7,8,9,10] (v:= ?_) (by (simp only [List.getElem?_toArray,List.getElem?_cons_succ,List.getElem?_cons_zero];rfl)) (by kernel_rfl) (by kernel_rfl) (by kernel_rfl) (by kernel_rfl) (by exact fun _ _ _ h=> h) (Or.inl ⟨by rfl, ?_⟩) Z_ ?_
 rotate_left
 ·intro u hu
  obtain ⟨hu1,a1,a2,a3,a4,a5,a6,a7⟩:=hu
  go_simp
  try with_reducible rfl
 try simp only [Act.put,upA,upB,upC]
 refine Qx.nx 6 (fun K hK=> ?_)
 rw [if_pos (by rfl)]
 go_simp
 refine hK.out _ _ (fun _=> HS1.out _ HKB.out) ?_
 clear hK K Z_
 try simp only [Act.put,upA,upB,upC]
 have Z_:=HS1.out _ HKB.out
 refine Qx.nx 7 (fun K hK=> ?_)
 rw [if_pos (by rfl)]
 refine wp_append_lies _ (.tmp 45) (.tmp 47) 131 rfl c.wz.heap.size 147 ie (.agg #[.int .i64 0,.int .i64 0,.string ⟨#[]⟩,.pointer none,.int .i64 0,.int .i64 0,.int .i64 0]) 7 64 Tryz.underlying131 hi0 hi1 hi2 hi3 rfl (by decide) (.slice D.ea sl D.ec) sl _ rfl HOw.out ⟨wf.heap.size,0,none⟩ 1 1 [.int .i64 t,.int .i64 (k:Int),.string n,.pointer (some ⟨tb,0,none⟩),.int .i64 (t+co),.int .i64 (sl:Int),.int .i64 cs] rfl rfl HBx.out HOne.out (by decide) HX1.out HX2.out HX3.out _ rfl ?_
 intro g1 cap1 w1 hown1 hgr1 hloc1 _
 rw [HTb.out] at hown1
 obtain ⟨hJ,f0,hS1,kk⟩:=HM.out.effH.grown (x:= ⟨t,(k:Int),n,t+co,(sl:Int),cs⟩) (KE.trans HKB.out) hown1 hgr1 hloc1
 rw [<-HCB.out] at hJ f0 hS1
 have HJ:=Kz hJ
 have kk1:But (fun z=> (Value.slice D.ea sl D.ec).ownBlock=some z) W1 w1:= (But.of_kept HKB.out).trans (.of_grown hgr1 (fun _ h=> h))
 have HE1:Hid (∀j,w1.cell? ⟨eb,j,none⟩=W1.cell? ⟨eb,j,none⟩):=fun j=> kk1.cell heb1 (fun e=> by have:= (HM.out.effH.row.lt _ e).2;omega)
 have HEz:Hid (eb < w1.heap.size):=Nat.lt_of_lt_of_le heb1 kk1.size
 clear hown1 hgr1 hloc1 hJ kk kk1
 refine hK.out _ _ (fun _=> ⟨hS1,HCE.out _ HE1.out⟩) ?_
 clear hK K Z_
 try simp only [Act.put,upA,upB,upC]
 have Z_: (fun u=> u.cell? ⟨cb,1,none⟩=some (.slice D.ea sl D.ec)∧u.cell? ⟨eb,0,none⟩=some (.int .i64 t)∧u.cell? ⟨eb,1,none⟩=some (.int .i64 (k:Int))∧u.cell? ⟨eb,2,none⟩=some (.string n)∧u.cell? ⟨eb,3,none⟩=some (.pointer (some ⟨tb,0,none⟩))∧u.cell? ⟨eb,4,none⟩=some (.int .i64 (t+co))∧u.cell? ⟨eb,5,none⟩=some (.int .i64 (sl:Int))∧u.cell? ⟨eb,6,none⟩=some (.int .i64 cs)) w1:= ⟨hS1,HCE.out _ HE1.out⟩
 refine Qx.take 8 [9,10] (v:= ?_) (by (simp only [List.getElem?_toArray,List.getElem?_cons_succ,List.getElem?_cons_zero];rfl)) (by kernel_rfl) (by kernel_rfl) (by kernel_rfl) (by kernel_rfl) (by exact fun _ _ _ h=> h) (Or.inl ⟨by rfl, ?_⟩) Z_ ?_
 rotate_left
 ·intro u hu
  obtain ⟨hu1,a1,a2,a3,a4,a5,a6,a7⟩:=hu
  go_simp
  try with_reducible rfl
 try simp only [Act.put,upA,upB,upC]
 refine Qx.take 9 [10] (v:= ?_) (by (simp only [List.getElem?_toArray,List.getElem?_cons_succ,List.getElem?_cons_zero];rfl)) (by kernel_rfl) (by kernel_rfl) (by kernel_rfl) (by kernel_rfl) (by exact fun _ _ _ h=> h) (Or.inl ⟨by rfl, ?_⟩) Z_ ?_
 rotate_left
 ·intro u hu
  obtain ⟨hu1,a1,a2,a3,a4,a5,a6,a7⟩:=hu
  go_simp
  try with_reducible rfl
 try simp only [Act.put,upA,upB,upC]
 refine Qx.nx 10 (fun K hK=> ?_)
 rw [if_pos (by rfl)]
 go_simp
 refine hK.out _ _ (fun h=> absurd rfl h) ?_
 clear hK K Z_
 try simp only [Act.put,upA,upB,upC]
 refine Qx.dn ?_
 clear f0 hS1
 go_wp2_with fail
 have HW3:Hid (CrewW c mx mq (sl+1) { D with es:= (fun i=> if i=sl then ⟨t,(k:Int),n,t+co,(sl:Int),cs⟩ else D.es i),ea:=some ⟨g1,0,none⟩,ec:=cap1 } (w1.setCell ⟨cb,1,none⟩ (.slice (some ⟨g1,0,none⟩) (sl+1) cap1))):=HM.out.effT (by rw [<-HCB.out];exact HJ.out.1) (by rw [<-HCB.out];exact HJ.out.2)
 have HBu3:Hid (But (KB c.cb c.qb (D.rows sl)) w (w1.setCell ⟨cb,1,none⟩ (.slice (some ⟨g1,0,none⟩) (sl+1) cap1))):=by
  exact HJ.out.2.but.mono (fun x _ e=> kb_row (i:=0) rfl rfl x (by rw [<-HCB.out];exact e))
 have HC3:Hid (∀j,(w1.setCell ⟨cb,1,none⟩ (.slice (some ⟨g1,0,none⟩) (sl+1) cap1)).cell? ⟨eb,j,none⟩=W1.cell? ⟨eb,j,none⟩):=fun j=> by
  rw [World.cell?_setCell_other _ _ _ _ (by intro e;injection e with e1;omega)]
  exact HE1.out j
 have hz3:eb < (w1.setCell ⟨cb,1,none⟩ (.slice (some ⟨g1,0,none⟩) (sl+1) cap1)).heap.size:=by rw [size_setCell];exact HEz.out
 generalize hw3:w1.setCell ⟨cb,1,none⟩ (.slice (some ⟨g1,0,none⟩) (sl+1) cap1)=w3 at HW3 HBu3 HC3 hz3⊢
 clear hw3
 refine Qx.rk 4 HCE.out (fun j=> ((K_.refl w3).drew.cell hz3).trans (HC3.out j)) (fun Z_=> ?_)
 have KG:K_ w3 w3.drew:= (K_.refl w3).drew
 generalize hwg:w3.drew=wg at Z_ KG⊢
 clear hwg
 refine Qx.take 0 [1,2,4] (v:= ?_) (by (simp only [List.getElem?_toArray,List.getElem?_cons_zero];rfl)) (by kernel_rfl) (by kernel_rfl) (by kernel_rfl) (by kernel_rfl) (by exact fun _ _ _ h=> h) (Or.inl ⟨by rfl, ?_⟩) Z_ ?_
 rotate_left
 ·intro u hu
  obtain ⟨a1,a2,a3,a4,a5,a6,a7⟩:=hu
  go_simp
  try with_reducible rfl
 try simp only [Act.put,upA,upB,upC]
 refine Qx.take 1 [2,4] (v:= ?_) (by (simp only [List.getElem?_toArray,List.getElem?_cons_succ,List.getElem?_cons_zero];rfl)) (by kernel_rfl) (by kernel_rfl) (by kernel_rfl) (by kernel_rfl) (by exact fun _ _ _ h=> h) (Or.inl ⟨by rfl, ?_⟩) Z_ ?_
 rotate_left
 ·intro u hu
  obtain ⟨a1,a2,a3,a4,a5,a6,a7⟩:=hu
  go_simp
  try with_reducible rfl
 try simp only [Act.put,upA,upB,upC]
 refine Qx.take 2 [4] (v:= ?_) (by (simp only [List.getElem?_toArray,List.getElem?_cons_succ,List.getElem?_cons_zero];rfl)) (by kernel_rfl) (by kernel_rfl) (by kernel_rfl) (by kernel_rfl) (by exact fun _ _ _ h=> h) (Or.inl ⟨by rfl, ?_⟩) Z_ ?_
 rotate_left
 ·intro u hu
  obtain ⟨a1,a2,a3,a4,a5,a6,a7⟩:=hu
  go_simp
  try with_reducible rfl
 try simp only [Act.put,upA,upB,upC]
 refine Qx.take 3 [4] (v:= ?_) (by (simp only [List.getElem?_toArray,List.getElem?_cons_succ,List.getElem?_cons_zero];rfl)) (by kernel_rfl) (by kernel_rfl) (by kernel_rfl) (by kernel_rfl) (by exact fun _ _ _ h=> h) (Or.inl ⟨by rfl, ?_⟩) Z_ ?_
 rotate_left
 ·intro u hu
  obtain ⟨a1,a2,a3,a4,a5,a6,a7⟩:=hu
  go_simp
  try with_reducible rfl
 try simp only [Act.put,upA,upB,upC]
 have HWg:=Kz (HW3.out.kept KG)
 have hput:=putE_any wg HWg.out.endH ⟨t,(k:Int),n,t+co,(sl:Int),cs⟩ (fun y u hy ku=> by
  have hbu:But (KB c.cb c.qb (D.rows sl)) w u:= (HBu3.out.trans (.of_kept KG)).trans (ku.mono (fun x _ e=> kb_row (R:=D.rows sl) (i:=3) rfl rfl x e))
  have h:=HOk.out u hbu
  rcases hy with rfl | hy
  ·exact ⟨h.1.1,h.1.2.1⟩
  ·exact h.2 y hy) (by exact hen) HWg.out.bm.kw.size
 dsimp only [effV] at hput
 rw [<-HCB.out,<-HTb.out] at hput
 have HPt:=Kz hput
 clear hput
 refine Qx.nx 4 (fun K hK=> ?_)
 rw [if_pos (by rfl)]
 go_simp
 go_at_call 157
 refine HPt.out.mono ?_
 rintro e w5 ⟨rfl,a5,c5,hM5,hT5⟩
 rw [HCB.out] at hM5 hT5
 have HW5:=Kz (HWg.out.endT hM5 hT5)
 clear hM5 hT5
 dsimp only
 refine hK.out _ _ (fun h=> absurd rfl h) ?_
 clear hK K Z_
 try simp only [Act.put,upA,upB,upC]
 refine Qx.dn ?_
 go_wp2
 go_end0
 exact ⟨rfl,some ⟨g1,0,none⟩,cap1,a5,c5,HW5.out⟩
theorem own_len (a:Option Addr) (n n' cap cap':Nat): (Value.slice a n cap).ownBlock= (Value.slice a n' cap').ownBlock:=by
 cases a with
 | none=> rfl
 | some x=> obtain ⟨b,o,g⟩:=x;cases o <;> cases g <;> rfl
theorem crewChoose_any {c:CrewC} {S:Shop} {w:World} {t:Int} (hA:CrewA c S w) (hk:CrewK c) (hs: ∀n,¬Sp (Q_ c.Kj) S n) (ht:0<=t∧t<=20 * (S.slots.length:Int)):
  Calls Tryz.prog 73 #[.pointer (some ⟨c.cb,0,none⟩),.int .i64 t] w fun e w'=> e= .returned (.tuple #[])∧∃S',Beg8 (Q_ c.Kj) t S S'∧CrewA c S' w'∧S'.T=S.T:=by
 obtain ⟨mx,mq,D,hB⟩:=hA
 obtain ⟨cb,hcb⟩: ∃cb,cb=c.cb:= ⟨_,rfl⟩
 rw [<-hcb]
 have HCB:=Kz hcb
 have HK:=Kz hk
 have HB:=Kz hB
 have HSp:=Kz hs
 have HT:=Kz ht
 clear hcb hk hB hs ht
 go_enter Tryz.func73,Tryz.ntmps73
 go_wp2_with fail
 go_loopg [] D.on (fun gg wr=> ∃(S1:Shop) (mx1 mq1:Nat) (D1:CrewD),Hid (gg=D1.on)∧Hid (CrewB c mx1 mq1 S1 D1 wr)∧Hid (∀n,¬Sp (Q_ c.Kj) S1 n)∧Hid (0<=t∧t<=20 * (S1.slots.length:Int))∧Hid (∀S',Beg8 (Q_ c.Kj) t S1 S'->Beg8 (Q_ c.Kj) t S S')∧Hid (S1.T=S.T))
 case atStart=> exact ⟨S,mx,mq,D,rfl,HB,HSp,HT,fun _ h=> h,rfl⟩
 case round=>
  obtain ⟨S1,mx1,mq1,D1,Hgg,HB1,HSp1,HT1,HG1,HTT⟩:=hrel
  have hE:=HB1.out.i.mem.offH
  have hF:=HB1.out.i.mem.freeH
  rw [<-HCB.out] at hE hF
  have hemp:=emptyT_any wr hE
  have hemf:=emptyI_any (num:=fun x:Nat=> (x:Int)) wr hF
  clear hE hF
  by_cases hz:D1.on=0
  ·have hzb:decide (D1.on=0)=true:=by simpa using hz
   rw [hzb] at hemp
   have HZ:=Kz hz
   clear hz hzb hemf
   go_wp2_with fail
   refine hemp.mono ?_
   rintro e w1 ⟨rfl,hw1⟩
   rw [hw1]
   clear hw1 w1 hemp
   go_wp2
   go_end0
   refine ⟨rfl,S1,HG1.out _ (.stop (.inr fun n hn=> ?_)),⟨mx1,mq1,D1,HB1.out⟩,HTT.out⟩
   have hpl:=HB1.out.i.pl
   rw [HZ.out] at hpl
   exact hpl.off.empty n ⟨hn.1,hn.2,HSp1.out n⟩
  ·obtain ⟨m,hm⟩: ∃m,D1.on=m+1:= ⟨D1.on - 1,by omega⟩
   have hzb:decide (D1.on=0)=false:=by simpa using hz
   rw [hzb] at hemp
   have HMm:=Kz hm
   clear hz hzb hm
   by_cases hz:D1.fn=0
   ·have hzb:decide (D1.fn=0)=true:=by simpa using hz
    rw [hzb] at hemf
    have HZ:=Kz hz
    clear hz hzb
    go_wp2_with fail
    refine hemp.mono ?_
    rintro e w1 ⟨rfl,hw1⟩
    rw [hw1]
    clear hw1 w1 hemp
    go_wp2_with fail
    refine hemf.mono ?_
    rintro e w1 ⟨rfl,hw1⟩
    rw [hw1]
    clear hw1 w1 hemf
    go_wp2
    go_end0
    refine ⟨rfl,S1,HG1.out _ (.stop (.inl fun k hk=> ?_)),⟨mx1,mq1,D1,HB1.out⟩,HTT.out⟩
    have hpl:=HB1.out.i.pl
    rw [HZ.out] at hpl
    exact hpl.free.empty k hk
   ·obtain ⟨q,hq⟩: ∃q,D1.fn=q+1:= ⟨D1.fn - 1,by omega⟩
    have hzb:decide (D1.fn=0)=false:=by simpa using hz
    rw [hzb] at hemf
    have HMq:=Kz hq
    clear hz hzb hq
    have hpl:=HB1.out.i.pl
    rw [HMm.out,HMq.out] at hpl
    obtain ⟨x1,x2,x3,x4,x5⟩:=hpl.begin (t:=t) HSp1.out
    have hE1:=HB1.out.i.mem.offH
    rw [HMm.out] at hE1
    have hle:=HB1.out.i.lens HK.out.len
    have kbO: ∀x,(x=c.cb∨(Value.slice D1.oa (m+1) D1.oc).ownBlock=some x)->KB c.cb c.qb (D1.rows S1.slots.length) x:=kb_row (i:=1) rfl (by show Value.slice D1.oa D1.on D1.oc=_;rw [HMm.out])
    have kbF: ∀x,(x=c.cb∨(Value.slice D1.fa (q+1) D1.fc).ownBlock=some x)->KB c.cb c.qb (D1.rows S1.slots.length) x:=kb_row (i:=4) rfl (by show Value.slice D1.fa D1.fn D1.fc=_;rw [HMq.out])
    obtain ⟨nm,hnm⟩: ∃nm,nm=D1.oF 0:= ⟨_,rfl⟩
    obtain ⟨kw,hkw⟩: ∃kw,kw=D1.fF 0:= ⟨_,rfl⟩
    have hin: (Qj S1.T nm).isSome=true:=Rdy.some (by rw [hnm];exact x3.1.1)
    rw [<-hkw] at x1 x2
    rw [<-hnm] at x3 x4
    rw [<-hnm,<-hkw] at x5
    have hcost:0<=costW (Q_ c.Kj) nm∧costW (Q_ c.Kj) nm<=20∧nm.size<=maxLen:=by
     obtain ⟨r,hr,_⟩:=x3.1.1
     obtain ⟨A,hA⟩:=Option.isSome_iff_exists.1 (HB1.out.i.pl.sane.ok.known nm r hr)
     have h1:= (HK.out.ok _ _ hA).2.2.1
     have h2:= (HK.out.ok _ _ hA).1.1
     unfold costW maxLen
     rw [hA]
     simp only
     omega
    have X1:=Kz x1
    have X2:=Kz x2
    have X3:=Kz x3
    have X4:=Kz x4
    have X5:=Kz x5
    have HNm:=Kz hnm
    have HKw:=Kz hkw
    have HKO:=Kz kbO
    have HKF:=Kz kbF
    have HIn:=Kz hin
    have HCo:=Kz hcost
    have HLe:=Kz hle
    have HE1:=Kz hE1
    clear hpl hE1 hle kbO kbF hnm hkw hin hcost x1 x2 x3 x4 x5
    go_wp2_with fail
    refine hemp.mono ?_
    rintro e w1 ⟨rfl,hw1⟩
    rw [hw1]
    clear hw1 w1 hemp
    go_wp2_with fail
    refine hemf.mono ?_
    rintro e w1 ⟨rfl,hw1⟩
    rw [hw1]
    clear hw1 w1 hemf
    go_wp2_with fail
    refine Qx.region (by kernel_rfl) (fun _=> True) 10 trivial (fun Z_=> ?_)
    have KD:K_ wr wr.drew:= (K_.refl wr).drew
    generalize hwd:wr.drew=wd at Z_ KD⊢
    clear hwd
    refine Qx.tk 0 Z_ ?_
    refine Qx.tk 1 Z_ ?_
    refine Qx.tk 2 Z_ ?_
    refine Qx.tk 3 Z_ ?_
    refine Qx.tk 5 Z_ ?_
    refine Qx.tk 6 Z_ ?_
    refine Qx.tk 7 Z_ ?_
    refine Qx.tk 9 Z_ ?_
    have htk:=takeT_any wd (HE1.out.kept KD) (costs_ahead (Q_ c.Kj) D1.loc) (.inl rfl) (fun y u hy k=> HB1.out.i.okT ((But.of_kept KD).trans k) HKO.out (HB1.out.i.offIn (by rw [HMm.out];exact hy))) (by have:=HLe.out;have:=HMm.out;omega)
    rw [<-HCB.out,<-HNm.out] at htk
    have HTk:=Kz htk
    clear htk
    refine Qx.nx 4 (fun K hK=> ?_)
    rw [if_pos (by rfl)]
    go_simp
    go_at_call 123
    refine HTk.out.mono ?_
    rintro e w2 ⟨rfl,hM2,hT2⟩
    rw [HCB.out] at hM2 hT2
    have HW2:Hid (CrewW c mx1 mq1 S1.slots.length { D1 with oF:=takeF (fun x y=> aheadC (costW (Q_ c.Kj) x) (costW (Q_ c.Kj) y) x y) D1.oF m,on:=m,oa:=D1.oa,oc:=D1.oc } w2):= (HB1.out.i.mem.kept KD).offT hM2 (by rw [HMm.out];exact hT2)
    have HB2:Hid (But (KB c.cb c.qb (D1.rows S1.slots.length)) wr w2):= (But.of_kept KD).trans (hT2.but.mono (fun x _ e=> HKO.out x e))
    clear hM2 hT2
    dsimp only
    refine hK.out _ _ (fun _=> trivial) ?_
    clear hK K
    try simp only [Act.put,upA,upB,upC]
    have hF2:=HW2.out.freeH
    dsimp only at hF2
    rw [HMq.out] at hF2
    have htf:=takeI_any (num:=fun x:Nat=> (x:Int)) w2 hF2 int_ahead rfl (fun _ _ _ _=> trivial) (by have:=HLe.out;have:=HMq.out;have:=HK.out.wk;omega)
    rw [<-HCB.out,<-HKw.out] at htf
    have HTf:=Kz htf
    clear htf hF2
    refine Qx.nx 8 (fun K hK=> ?_)
    rw [if_pos (by rfl)]
    go_simp
    go_at_call 126
    refine HTf.out.mono ?_
    rintro e w3 ⟨rfl,hM3,hT3⟩
    rw [HCB.out] at hM3 hT3
    have HW3:Hid (CrewW c mx1 mq1 S1.slots.length { D1 with oF:=takeF (fun x y=> aheadC (costW (Q_ c.Kj) x) (costW (Q_ c.Kj) y) x y) D1.oF m,on:=m,oa:=D1.oa,oc:=D1.oc,fF:=takeF aheadI D1.fF q,fn:=q,fa:=D1.fa,fc:=D1.fc } w3):=HW2.out.freeT hM3 (by dsimp only;rw [HMq.out];exact hT3)
    have HB3:Hid (But (KB c.cb c.qb (D1.rows S1.slots.length)) wr w3):=HB2.out.trans (hT3.but.mono (fun x _ e=> HKF.out x e))
    clear hM3 hT3
    dsimp only
    refine hK.out _ _ (fun _=> trivial) ?_
    clear hK K
    try simp only [Act.put,upA,upB,upC]
    have hbg:=crewBegin_any (n:=nm) (k:=kw) (t:=t) (cs:=S1.cause nm) HW3.out X4.out (fun u ku=> by
     have hbu:But (KB c.cb c.qb (D1.rows S1.slots.length)) wr u:=HB3.out.trans (ku.mono (fun x _ e=> by
      rcases e with e | e | ⟨r,hr,e⟩
      ·exact .inl e
      ·exact .inr (.inl e)
      ·simp only [CrewD.rows,List.mem_cons,List.not_mem_nil,or_false] at hr
       rcases hr with rfl | rfl | rfl | rfl | rfl
       ·exact .inr (.inr ⟨_,List.mem_of_getElem? (i:=0) rfl,e⟩)
       ·exact .inr (.inr ⟨_,List.mem_of_getElem? (i:=1) rfl,(own_len _ _ _ _ _).trans e⟩)
       ·exact .inr (.inr ⟨_,List.mem_of_getElem? (i:=2) rfl,e⟩)
       ·exact .inr (.inr ⟨_,List.mem_of_getElem? (i:=3) rfl,e⟩)
       ·exact .inr (.inr ⟨_,List.mem_of_getElem? (i:=4) rfl,(own_len _ _ _ _ _).trans e⟩)))
     exact ⟨HB1.out.i.okT hbu (fun _=> id) HIn.out,fun y hy=> HB1.out.i.okE hbu (fun _=> id) (HB1.out.i.endIn hy)⟩) HCo.out.2.2 (by have:=HT1.out;have:=HB1.out.b3;have:=HLe.out;have:=HK.out.wk;omega) ⟨HCo.out.1,HCo.out.2.1⟩ (by have:=HB1.out.b3;have:=HLe.out;have:=HK.out.wk;omega) (by have:=HLe.out;have:=HK.out.wk;dsimp only;omega)
    dsimp only at hbg
    rw [<-HCB.out] at hbg
    have HBg:=Kz hbg
    clear hbg
    refine Qx.nx 10 (fun K hK=> ?_)
    rw [if_pos (by rfl)]
    go_simp
    go_at_call 125
    refine HBg.out.mono ?_
    rintro e w4 ⟨rfl,ea4,ec4,xa4,xc4,hW4⟩
    have HW4:=Kz hW4
    clear hW4
    dsimp only
    refine hK.out _ _ (fun h=> absurd rfl h) ?_
    clear hK K Z_
    try simp only [Act.put,upA,upB,upC]
    refine Qx.dn ?_
    go_wp2_with fail
    go_roundg m
    case measure=> have h1:=Hgg.out;have h2:=HMm.out;omega
    case rel=>
     refine ⟨beginS (Q_ c.Kj) S1 t kw nm,mx1,mq1,{ D1 with es:= (fun p=> if p=S1.slots.length then ⟨t,(kw:Int),nm,t+costW (Q_ c.Kj) nm,(S1.slots.length:Int),S1.cause nm⟩ else D1.es p),ea:=ea4,ec:=ec4,oF:=takeF (fun x y=> aheadC (costW (Q_ c.Kj) x) (costW (Q_ c.Kj) y) x y) D1.oF m,on:=m,eF:=putF aheadE D1.eF D1.en ⟨t,(kw:Int),nm,t+costW (Q_ c.Kj) nm,(S1.slots.length:Int),S1.cause nm⟩,en:=D1.en+1,xa:=xa4,xc:=xc4,fF:=takeF aheadI D1.fF q,fn:=q },rfl,⟨⟨?_,HB1.out.i.bs,HB1.out.i.run,X5.out,HB1.out.i.loc,fun s hs=> ?_⟩,HB1.out.b1,HB1.out.b2, ?_,fun k' e' hk'=> ?_⟩,HSp1.out,⟨HT1.out.1, ?_⟩,fun S' hS'=> HG1.out S' (.go X1.out X2.out X3.out hS'),HTT.out⟩
     ·show CrewW c mx1 mq1 (S1.slots++ [_]).length _ w4
      rw [List.length_append]
      exact HW4.out
     ·rcases List.mem_append.1 hs with hs | hs
      ·exact HB1.out.i.sn s hs
      ·rw [List.mem_singleton.1 hs];exact HIn.out
     ·have h1:=HB1.out.b3
      show (S1.slots++ [_]).length+potS c S1<=2000+ (D1.en+1)
      rw [List.length_append,List.length_singleton]
      omega
     ·have hl: (beginS (Q_ c.Kj) S1 t kw nm).slots.length=S1.slots.length+1:=by show (S1.slots++ [_]).length=_;rw [List.length_append,List.length_singleton]
      rw [hl]
      have h2:=HT1.out
      have h3:=HCo.out
      rcases set_get hk' with ⟨_,y⟩ | ⟨_,y⟩
      ·simp only [Option.some.injEq] at y
       subst y
       dsimp only
       omega
      ·have:=HB1.out.b4 k' e' y
       omega
     ·have hl: (beginS (Q_ c.Kj) S1 t kw nm).slots.length=S1.slots.length+1:=by show (S1.slots++ [_]).length=_;rw [List.length_append,List.length_singleton]
      rw [hl]
      have h2:=HT1.out
      omega
theorem crewWork_any {c:CrewC} {mx mq:Nat} {S:Shop} {D:CrewD} {w:World} (h:CrewI c mx mq S (fun _=> False) D w) (hk:CrewK c) (hi:Idle8 S) (hc: ∀n,S.cause n= -1) (hb1:mx+6 * potS c S<=9000) (hb2:mq+60+60 * potS c S<=500000) (hb3:S.slots.length=0):
  Calls Tryz.prog 30 #[.pointer (some ⟨c.cb,0,none⟩)] w fun e w'=> ∃(u:Int) (A:Shop),e= .returned (.int .i64 u)∧Wrk8 (Q_ c.Kj) 0 S u A∧CrewA c A w':=by
 have hoff:=offer_any (j:= -1) h hk.len hk.ok (fun n _ _=> hc n) (by omega)
 obtain ⟨cb,hcb⟩: ∃cb,cb=c.cb:= ⟨_,rfl⟩
 rw [<-hcb] at hoff⊢
 have HCB:=Kz hcb
 have HK:=Kz hk
 have HI:=Kz hi
 have HB1:=Kz hb1
 have HB2:=Kz hb2
 have HB3:=Kz hb3
 have HOff:=Kz hoff
 clear hcb hk hi hb1 hb2 hb3 hoff h hc
 go_enter Tryz.func30,Tryz.ntmps30
 go_wp2_with fail
 refine HOff.out.mono ?_
 rintro e w1 ⟨rfl,D1,hI1,_,_⟩
 have HA1:Hid (CrewA c S w1):= ⟨mx,mq+60,D1,hI1,HB1.out,HB2.out,by have:=HB3.out;have:=HB1.out;omega,fun k e hk=> absurd hk (HI.out k e)⟩
 clear hI1
 go_wp2_with fail
 go_loopg [3] (potS c S+1) (fun gg x3 wr=> ∃(t:Int) (S1:Shop),x3= .int .i64 t∧Hid (CrewA c S1 wr)∧Hid (0<=t∧t<=20 * (S1.slots.length:Int))∧Hid (From8 t S1)∧Hid (∀u A,Wrk8 (Q_ c.Kj) t S1 u A->Wrk8 (Q_ c.Kj) 0 S u A)∧Hid (potS c S1 < gg∨(gg=potS c S1∧∃(k:Nat) (e:EffD),S1.busy[k]? =some (some e)∧e.fin=t)))
 case atStart=> exact ⟨0,S,rfl,HA1,⟨Int.le_refl _,by omega⟩,fun k e hk=> absurd hk (HI.out k e),fun _ _ h=> h,.inl (Nat.lt_succ_self _)⟩
 case round=>
  obtain ⟨t,S1,rfl,HA,HT,HF,HG,HP⟩:=hrel
  have hfin:=crewFinish_any HA.out HK.out HF.out
  rw [<-HCB.out] at hfin
  go_wp2_with fail
  refine hfin.mono ?_
  rintro e w2 ⟨rfl,S2,hf2,hA2,hs2,hp2⟩
  have HF2:=Kz hf2
  have HS2:=Kz hs2
  have HP2:=Kz hp2
  have hmk:=makeOver_any hA2 HK.out
  rw [<-HCB.out] at hmk
  clear hfin hf2 hs2 hp2 hA2
  go_wp2_with fail
  refine hmk.mono ?_
  rintro e w3 ⟨rfl,S3,hf3,hA3,hs3,hz3,hp3⟩
  have HF3:=Kz hf3
  have HS3:=Kz hs3
  have HP3:=Kz hp3
  have hch:=crewChoose_any (t:=t) hA3 HK.out hf3.busy.2 (by rw [hs3,HS2.out];exact HT.out)
  rw [<-HCB.out] at hch
  clear hmk hf3 hs3 hp3 hA3 hz3
  go_wp2_with fail
  refine hch.mono ?_
  rintro e w4 ⟨rfl,S4,hf4,hA4,hT4⟩
  have HTk:Hid (Tick8 (Q_ c.Kj) t S1 S4):= ⟨S2,S3,HF2.out,HF3.out,hf4⟩
  have HP4:Hid (potS c S4<=potS c S3):=by show potS c S4<=potS c S3;unfold potS;rw [hT4];exact Nat.le_refl _
  clear hch hf4 hT4
  obtain ⟨mx4,mq4,D4,hB4⟩:=hA4
  have HB4:=Kz hB4
  clear hB4
  have hE:=HB4.out.i.mem.endH
  rw [<-HCB.out] at hE
  have hemp:=emptyE_any w4 hE
  have HE:=Kz hE
  clear hE
  by_cases hz:D4.en=0
  ·have hzb:decide (D4.en=0)=true:=by simpa using hz
   rw [hzb] at hemp
   have HZ:=Kz hz
   clear hz hzb
   go_wp2_with fail
   refine hemp.mono ?_
   rintro e w5 ⟨rfl,hw5⟩
   rw [hw5]
   clear hw5 w5 hemp
   go_wp2
   go_ret
   have hpl:=HB4.out.i.pl
   rw [HZ.out] at hpl
   exact ⟨t,S4,rfl,HG.out _ _ (.last HTk.out hpl.idle),mx4,mq4,D4,HB4.out⟩
  ·have hzb:decide (D4.en=0)=false:=by simpa using hz
   rw [hzb] at hemp
   obtain ⟨m,hm⟩: ∃m,D4.en=m+1:= ⟨D4.en - 1,by omega⟩
   have hpl:=HB4.out.i.pl
   rw [hm] at hpl
   obtain ⟨k,x,x1,x2,x3,x4,x5,x6,x7,x8⟩:=hpl.endOne
   have HFst:=Kz (firstE_any w4 HE.out (by omega))
   have X1:=Kz x1
   have X4:=Kz x4
   have X7:=Kz x7
   clear hpl x1 x2 x3 x4 x5 x6 x7 x8 hz hzb hm
   go_wp2_with fail
   refine hemp.mono ?_
   rintro e w5 ⟨rfl,hw5⟩
   rw [hw5]
   clear hw5 w5 hemp
   go_wp2_with fail
   refine HFst.out.mono ?_
   rintro e w5 ⟨rfl,k5⟩
   have HK5:=Kz k5
   clear k5
   unfold effV
   have hfld:=Tryz.effFin w5 (D4.eF 0) D4.loc
   go_wp2_with fail
   clear hfld
   go_roundg (potS c S4)
   case measure=>
    have h3:=HP3.out
    have h4:=HP4.out
    rcases HP.out with e | ⟨e,k',e',g1,g2⟩
    ·rcases HP2.out with e2 | e2
     ·rw [e2] at h3;omega
     ·omega
    ·rcases HP2.out with e2 | e2
     ·have hbh:=HF2.out.behind HF.out k' e' (by rw [e2];exact g1)
      omega
     ·omega
   case rel=>
    refine ⟨x.fin,S4,by rw [X4.out],⟨mx4,mq4,D4,HB4.out.i.kept HK5.out,HB4.out.b1,HB4.out.b2,HB4.out.b3,HB4.out.b4⟩,HB4.out.b4 k x X1.out,X7.out,fun u A hw=> HG.out u A (.next HTk.out ⟨k,x,X1.out,rfl⟩ X7.out hw),.inr ⟨rfl,k,x,X1.out,rfl⟩⟩
noncomputable def newD (ts:List Zx) (d:Option Addr) (dc:Nat) (f:ByteArray->Value) (ws:ByteArray->List Nat):CrewD where
 g:=fun _=> none
 loc:=locOf ts (fun _=> 0)
 es:=fun _=> ⟨0,0,ByteArray.empty,0,0,0⟩
 ea:=none
 ec:=0
 oF:=fun _=> ByteArray.empty
 on:=0
 oa:=none
 oc:=0
 sF:=fun _=> ByteArray.empty
 sn:=0
 sa:=none
 sc:=0
 eF:=fun _=> ⟨0,0,ByteArray.empty,0,0,0⟩
 en:=0
 xa:=none
 xc:=0
 fF:=fun _=> 0
 fn:=0
 fa:=none
 fc:=0
 ts:=ts
 d:=d
 dc:=dc
 f:=f
 ws:=ws
theorem newCrew_mem {Kj:List Qq} {wz w:World} {bb:Nat} {a:Option Addr} {cap:Nat} {rd:Option Addr} {rn rc mb mx:Nat} {ts:List Zx} {d:Option Addr} {dc:Nat} {f:ByteArray->Value} {ws:ByteArray->List Nat} {wk:Nat} (hB:BM (Ghost.no wz) Kj wz w bb a cap rd rn rc mb mx ts d dc f ws):
  CrewW ⟨Kj,wz,wk,w.heap.size+1,w.heap.size,bb,a,cap,rd,rn,rc,mb⟩ mx 0 0 (newD ts d dc f ws) ((w.alloc (.map #[] 0)).alloc (.cells #[.pointer (some ⟨bb,0,none⟩),.slice none 0 0,.map (some w.heap.size),.slice none 0 0,.func (.func 65) #[] #[],.slice none 0 0,.func (.func 66) #[] #[],.slice none 0 0,.func (.func 67) #[] #[],.slice none 0 0,.func (.func 68) #[] #[]] 142)):=by
 obtain ⟨w1,hw1⟩: ∃w1,w1=w.alloc (.map #[] 0):= ⟨_,rfl⟩
 obtain ⟨w2,hw2⟩: ∃w2,w2=w1.alloc (.cells #[.pointer (some ⟨bb,0,none⟩),.slice none 0 0,.map (some w.heap.size),.slice none 0 0,.func (.func 65) #[] #[],.slice none 0 0,.func (.func 66) #[] #[],.slice none 0 0,.func (.func 67) #[] #[],.slice none 0 0,.func (.func 68) #[] #[]] 142):= ⟨_,rfl⟩
 rw [<-hw1,<-hw2]
 have z1:w1.heap.size=w.heap.size+1:=by rw [hw1];simp
 have z2:w2.heap.size=w.heap.size+1+1:=by rw [hw2,World.size_alloc,z1]
 have k1:K_ w w1:=by rw [hw1];exact (K_.refl w).alloc _
 have k2:K_ w1 w2:=by rw [hw2];exact (K_.refl w1).alloc _
 have hrg:=Xz w1 #[.pointer (some ⟨bb,0,none⟩),.slice none 0 0,.map (some w.heap.size),.slice none 0 0,.func (.func 65) #[] #[],.slice none 0 0,.func (.func 66) #[] #[],.slice none 0 0,.func (.func 67) #[] #[],.slice none 0 0,.func (.func 68) #[] #[]] 142
 rw [<-hw2,z1] at hrg
 have hrow:RowT w2 (w.heap.size+1) 142 11:=by
  rw [hw2,<-z1]
  exact ⟨_,World.alloc_heap_new w1 _,rfl⟩
 have hc:CausM w2 w.heap.size 0 (fun _=> none):=by
  have h:=CausM.new w
  rw [<-hw1] at h
  exact h.but (S:=fun _=> False) (.of_kept k2) id
 have hzw:=hB.kw.size
 have hB2:=hB.kept (k1.trans k2)
 have nK: ∀x,KB (w.heap.size+1) w.heap.size ((newD ts d dc f ws).rows 0) x->w.heap.size<=x∧x < w2.heap.size:=fun x hx=> by
  rcases hx with rfl | rfl | ⟨r,hr,e⟩
  ·omega
  ·omega
  ·simp only [CrewD.rows,List.mem_cons,List.not_mem_nil,or_false] at hr
   rcases hr with rfl | rfl | rfl | rfl | rfl <;> cases e
 have hnil: ∀r∈(newD ts d dc f ws).rows 0,w2.cell? ⟨w.heap.size+1,r.o,none⟩=some r.v∧w2.ownsRow wz.heap.size r.e r.sz r.v r.n r.xs∧r.v.ownBlock≠some (w.heap.size+1):=fun r hr=> by
  simp only [CrewD.rows,List.mem_cons,List.not_mem_nil,or_false] at hr
  rcases hr with rfl | rfl | rfl | rfl | rfl
  ·exact ⟨hrg 1 _ rfl,World.ownsRow_nil _ _ _ _,fun e=> by cases e⟩
  ·exact ⟨hrg 3 _ rfl,World.ownsRow_nil _ _ _ _,fun e=> by cases e⟩
  ·exact ⟨hrg 5 _ rfl,World.ownsRow_nil _ _ _ _,fun e=> by cases e⟩
  ·exact ⟨hrg 7 _ rfl,World.ownsRow_nil _ _ _ _,fun e=> by cases e⟩
  ·exact ⟨hrg 9 _ rfl,World.ownsRow_nil _ _ _ _,fun e=> by cases e⟩
 have hmb:mb < w.heap.size:=by obtain ⟨N,D,_,hM,_⟩:=hB.map;exact hM.lt
 refine ⟨hB2.as ⟨Nat.le_refl _,fun x hx=> (nK x hx).2,fun _ _=> rfl,fun e=> ?_,fun e=> ?_,fun t ht=> ⟨fun e=> ?_,fun x hx e=> ?_⟩,fun s x hx e=> ?_,fun p hp=> ?_⟩ (fun x hx e=> ?_),hrow,hrg 0 _ rfl,hrg 2 _ rfl,hrg 4 _ rfl,hrg 6 _ rfl,hrg 8 _ rfl,hrg 10 _ rfl,hc,by show wz.heap.size<=w.heap.size+1;omega,hzw,hnil,fun r hr=> ?_, ?_, ?_⟩
 ·have:= (nK _ e).1;have:=hB.row.lt;omega
 ·have:= (nK _ e).1;omega
 ·have:= (nK _ e).1;have:= (hB.task t ht).row.lt;omega
 ·have:= (nK _ e).1;have:= ((hB.task t ht).own_type hx).2.2;omega
 ·have:= (nK _ e).1;have:= ((hB.wrow s).lt x hx).2;omega
 ·obtain ⟨t,ht,rfl⟩:=List.mem_map.1 hp;exact ⟨t,ht,rfl,rfl⟩
 ·have:= (nK _ e.2).1;have:= (hB.items.lt x hx).2;omega
 ·simp only [CrewD.rows,List.mem_cons,List.not_mem_nil,or_false] at hr
  rcases hr with rfl | rfl | rfl | rfl | rfl
  ·exact .inl rfl
  ·exact .inr (.inl rfl)
  ·exact .inr (.inr (.inl rfl))
  ·exact .inr (.inr (.inr (.inl rfl)))
  ·exact .inr (.inr (.inr (.inr rfl)))
 ·show ([1,3,5,7,9]:List Nat).Nodup
  decide
 ·refine List.pairwise_iff_getElem.2 fun i j hi hj hij x hx=> ?_
  have hr: ((newD ts d dc f ws).rows 0)[i]∈(newD ts d dc f ws).rows 0:=List.getElem_mem hi
  generalize ((newD ts d dc f ws).rows 0)[i]=r at hr hx
  simp only [CrewD.rows,List.mem_cons,List.not_mem_nil,or_false] at hr
  rcases hr with rfl | rfl | rfl | rfl | rfl <;> cases hx
def NewEnd (Kj:List Qq) (wz:World) (bb:Nat) (a:Option Addr) (cap:Nat) (rd:Option Addr) (rn rc mb mx:Nat) (ts:List Zx) (d:Option Addr) (dc:Nat) (f:ByteArray->Value) (ws:ByteArray->List Nat) (wk:Nat) (e:Ending) (w':World):Prop:=
 ∃(cb qb:Nat) (fF:Nat->Nat) (fa:Option Addr) (fc:Nat),e= .returned (.pointer (some ⟨cb,0,none⟩))∧HeapP aheadI fF wk (fun k=> k < wk)∧CrewW ⟨Kj,wz,wk,cb,qb,bb,a,cap,rd,rn,rc,mb⟩ mx 0 0 { newD ts d dc f ws with fF:=fF,fn:=wk,fa:=fa,fc:=fc } w'
theorem newCrew_any {Kj:List Qq} {wz w:World} {bb:Nat} {a:Option Addr} {cap:Nat} {rd:Option Addr} {rn rc mb mx:Nat} {ts:List Zx} {d:Option Addr} {dc:Nat} {f:ByteArray->Value} {ws:ByteArray->List Nat} {wk:Nat} (hB:BM (Ghost.no wz) Kj wz w bb a cap rd rn rc mb mx ts d dc f ws) (hwk:wk<=60):
  Calls Tryz.prog 29 #[.pointer (some ⟨bb,0,none⟩),.int .i64 (wk:Int)] w fun e w'=> NewEnd Kj wz bb a cap rd rn rc mb mx ts d dc f ws wk e w':=by
 have hmk: (Instr.makeMap 130 none).run Tryz.prog w= .ok (.map (some w.heap.size)) (w.alloc (.map #[] 0)):=by kernel_rfl
 have HM0:=Kz (newCrew_mem (wk:=wk) hB)
 clear hB
 go_enter Tryz.func29,Tryz.ntmps29
 go_wp2_with fail
 clear hmk
 obtain ⟨w2,hw2⟩: ∃w2,w2= (w.alloc (.map #[] 0)).alloc (.cells #[.pointer (some ⟨bb,0,none⟩),.slice none 0 0,.map (some w.heap.size),.slice none 0 0,.func (.func 65) #[] #[],.slice none 0 0,.func (.func 66) #[] #[],.slice none 0 0,.func (.func 67) #[] #[],.slice none 0 0,.func (.func 68) #[] #[]] 142):= ⟨_,rfl⟩
 rw [<-hw2] at HM0⊢
 clear hw2
 obtain ⟨cb,hcb⟩: ∃cb,cb=w.heap.size+1:= ⟨_,rfl⟩
 obtain ⟨qb,hqb⟩: ∃qb,qb=w.heap.size:= ⟨_,rfl⟩
 rw [<-hcb] at HM0⊢
 rw [<-hqb] at HM0⊢
 clear hcb hqb
 go_loopw [28] (fun x wr=> ∃(i:Nat) (fF:Nat->Nat) (fa:Option Addr) (fc:Nat),i<=wk∧x= .int .i64 (i:Int)∧Hid (HeapP aheadI fF i (fun k=> k < i))∧Hid (CrewW ⟨Kj,wz,wk,cb,qb,bb,a,cap,rd,rn,rc,mb⟩ mx 0 0 { newD ts d dc f ws with fF:=fF,fn:=i,fa:=fa,fc:=fc } wr)) (fun x _=> wk - (intOf x).toNat)
 case atStart=> exact ⟨0,fun _=> 0,none,0,Nat.zero_le _,rfl,HeapP.nil (fun k hk=> by omega),HM0.out⟩
 case round=>
  obtain ⟨i,fF,fa,fc,hi,rfl,HP,HM⟩:=hrel
  by_cases hlt:i < wk
  ·have hlt2: (i:Int) < (wk:Int):=by omega
   have hput:=putI_any (num:=fun x:Nat=> (x:Int)) wr HM.out.freeH int_ahead rfl i (fun _ _ _ _=> trivial) (by dsimp only;omega) HM.out.bm.kw.size
   dsimp only at hput
   go_wp2_with fail
   refine hput.mono ?_
   rintro e w3 ⟨rfl,a3,c3,hM3,hT3⟩
   have HM3:=Kz (HM.out.freeT hM3 hT3)
   clear hput hM3 hT3
   go_wp2
   go_roundw
   case rel=> exact ⟨i+1,putF aheadI fF i i,a3,c3,by omega,by go_num,(HP.out.put aheadI_ok (x:=i) (by omega)).congr (fun k=> by omega),HM3.out⟩
   case measure=> simp [intOf];omega
  ·have hge: ¬(i:Int) < (wk:Int):=by omega
   go_wp2
   go_ret
   have:i=wk:=by omega
   subst this
   exact ⟨cb,qb,fF,fa,fc,rfl,HP.out,HM.out⟩
section
variable {B : Nat} {Kf Kc : Nat -> Prop} {W0 : World} {Kj : List Qq} {wz W W' : World} {bb : Nat} {a : Option Addr} {cap : Nat} {rd : Option Addr} {rn rc : Nat} {mb mx : Nat} {ts0 ts : List Zx} {d0 d : Option Addr} {dc : Nat} {f : ByteArray -> Value} {ws : ByteArray -> List Nat}
theorem InB.task (h:InB B Kf Kc (psOf ts0) W0 Kj wz W bb a cap rd rn rc mb mx ts d dc f ws) {i:Nat} (hi:i < ts0.length): ∃(j:Nat) (t:Zx),ts[j]? =some t∧t.tb=tbOf ts0 i∧t.r.name= (nsOf ts0).getD i ByteArray.empty:=by
 obtain ⟨t,ht,h1,h2⟩:=h.bm.oth.has (ts0[i].tb,ts0[i].r.name) (List.mem_map.2 ⟨ts0[i],List.getElem_mem hi,rfl⟩)
 obtain ⟨j,hj⟩:=List.getElem?_of_mem ht
 exact ⟨j,t,hj,by rw [h1];simp [tbOf,List.getD,hi],by rw [h2];simp [nsOf,List.getD,hi]⟩
theorem InB.row (h:InB B Kf Kc (psOf ts0) W0 Kj wz W bb a cap rd rn rc mb mx ts d dc f ws) {base dc0:Nat} (ho:W0.ownsRow base 145 1 (.slice d0 ts0.length dc0) ts0.length (ts0.map Zx.ptr)) (hK: ∀g,d0=some ⟨g,0,none⟩->Kf g) {i:Nat} (hi:i < ts0.length): ∃g,d0=some ⟨g,0,none⟩∧W.cell? ⟨g,i,none⟩=some (.pointer (some ⟨tbOf ts0 i,0,none⟩)):=by
 rcases ho.2 with ⟨e,_⟩ | ⟨g,cp,cur,e,_⟩
 ·exfalso
  simp only [Value.slice.injEq] at e
  omega
 ·simp only [Value.slice.injEq] at e
  obtain ⟨rfl,_,rfl⟩:=e
  refine ⟨g,rfl, ?_⟩
  have hc:=ho.cells (g:=g) rfl i (ts0[i]).ptr (by simp [hi])
  have e1:W.cell? ⟨g,i,none⟩=W0.cell? ⟨g,i,none⟩:=World.cell?_of_block (w:=W0) (h.same g (hK g rfl))
  rw [e1]
  have e2: ((⟨g,0,none⟩:Addr).add i)= ⟨g,i,none⟩:=by simp [Addr.add];omega
  rw [e2] at hc
  rw [hc]
  simp [Zx.ptr,tbOf,List.getD,hi]
theorem InB.sees (h:InB B Kf Kc (psOf ts0) W0 Kj wz W bb a cap rd rn rc mb mx ts d dc f ws) (hS:BS Kj ts ws) {base dc0:Nat} (ho:W0.ownsRow base 145 1 (.slice d0 ts0.length dc0) ts0.length (ts0.map Zx.ptr)) (hK: ∀g,d0=some ⟨g,0,none⟩->Kf g) {i:Nat} (hi:i < ts0.length):
  (SeesV d0 (tbOf ts0) i W∧ReadyX (Q_ Kj) (Qj (Qk ts)) ((nsOf ts0).getD i ByteArray.empty))∨(SeesN d0 (tbOf ts0) i W∧¬ReadyX (Q_ Kj) (Qj (Qk ts)) ((nsOf ts0).getD i ByteArray.empty)):=by
 obtain ⟨g,e,hc⟩:=h.row ho hK hi
 obtain ⟨j,t,hj,h1,h2⟩:=h.task hi
 have ht:t∈ts:=List.mem_of_getElem? hj
 have hT:=h.bm.task t ht
 have c1:W.cell? ⟨t.tb,1,none⟩=some (.bool t.r.over):=hT.rng 1 _ rfl
 have c9:W.cell? ⟨t.tb,9,none⟩=some (.int .i64 (t.op:Int)):=hT.rng 9 _ rfl
 have he:Qj (Qk ts) t.r.name=some t.r:=asc_env h.bm.asc (List.mem_map_of_mem ht)
 rw [h1] at c1 c9
 rw [h2] at he
 have hcan:=hS.can ht
 by_cases hg:CanGo (Q_ Kj) (Qj (Qk ts)) t.r
 ·obtain ⟨g1,g2⟩:=hcan.1 hg
  rw [g1] at c1
  rw [g2] at c9
  exact .inl ⟨⟨g,e,hc,c1,c9⟩,⟨t.r,he,hg⟩⟩
 ·refine .inr ⟨⟨g,e,hc, ?_⟩,fun ⟨r,hr,hg'⟩=> ?_⟩
  ·cases hov:t.r.over with
   | true=> left;rw [c1,hov]
   | false=>
    right
    refine ⟨by rw [c1,hov],t.op,fun h0=> hg (hcan.2 ⟨hov,h0⟩),c9⟩
  ·rw [he] at hr
   cases hr
   exact hg hg'
def ApI (B:Nat) (Kf Kc:Nat->Prop) (W0:World) (Kj:List Qq) (wz:World) (bb:Nat) (a:Option Addr) (cap:Nat) (rd:Option Addr) (rn rc:Nat) (mb:Nat) (ts0:List Zx) (Gl σ0:Env) (c:Nat) (i:Nat) (W:World):Prop:=
 ∃(mx:Nat) (ts:List Zx) (d:Option Addr) (dc:Nat) (f:ByteArray->Value) (ws:ByteArray->List Nat) (b:Bool),
  InB B Kf Kc (psOf ts0) W0 Kj wz W bb a cap rd rn rc mb mx ts d dc f ws∧BS Kj ts ws∧PassX Kj Gl σ0 (Qj (Qk ts0)) (nsOf ts0) (Qj (Qk ts)) i b∧mx+6 * potE Kj ts<=9000∧W.cell? ⟨c,0,none⟩=some (.bool b)∧W.frozen? ⟨c,0,none⟩=false
theorem ApI.calm {Gl σ0:Env} {c i:Nat} (hc:Kc c):Calm B (ApI B Kf Kc W0 Kj wz bb a cap rd rn rc mb ts0 Gl σ0 c i):=by
 constructor
 ·rintro W o hB ⟨mx,ts,d,dc,f,ws,b,h1,h2,h3,h4,h5,h6⟩
  have hlt:c < W.heap.size:=h1.bm.oth.lt c (.inr hc)
  exact ⟨mx,ts,d,dc,f,ws,b,h1.kept ((K_.refl W).alloc o),h2,h3,h4,(((K_.refl W).alloc o).cell hlt).trans h5,(((K_.refl W).alloc o).rules.2 c 0 hlt).trans h6⟩
 ·rintro W l o o' hl ho hn ⟨mx,ts,d,dc,f,ws,b,h1,h2,h3,h4,h5,h6⟩
  have hlt:=h1.lt c (.inr hc)
  exact ⟨mx,ts,d,dc,f,ws,b,h1.calm o' hl ho hn,h2,h3,h4,(put_cell o' (by omega)).trans h5,(put_frozen o' (by omega)).trans h6⟩
end
attribute [local go_sem] Oper.semAt_some
section
variable {Kj : List Qq} {wz w w' : World} {bb : Nat} {a : Option Addr} {cap : Nat} {rd : Option Addr} {rn rc : Nat} {mb mx : Nat} {ts : List Zx} {d : Option Addr} {dc : Nat} {f : ByteArray -> Value} {ws : ByteArray -> List Nat}
end
section
variable {G : Ghost} {Kj : List Qq} {wz w w' : World} {bb : Nat} {a : Option Addr} {cap : Nat} {rd : Option Addr} {rn rc : Nat} {mb mx : Nat} {ts : List Zx} {d : Option Addr} {dc : Nat} {f : ByteArray -> Value} {ws : ByteArray -> List Nat}
end
theorem FinishOk.kept {w wz:World} (h:FinishOk w) (k:K_ w wz):FinishOk wz:=fun W give a cap l kW h1 h2 h3 h4=> h W give a cap l (k.trans kW) h1 h2 h3 h4
theorem GoalX.good {Kj:List Qq} {Kk:List ByteArray} {sl:List Qz} (h:GoalX Kj Kk sl):GoodL Kj sl:=by
 obtain ⟨k,L,hg,_,_,rfl⟩:=h
 exact hg
attribute [local go_sem] Oper.semAt_some
def SeesT (B:Nat) (d:Option Addr) (tx:Nat->ByteArray) (i:Nat) (W:World):Prop:= ∃b o,d=some ⟨b,o,none⟩∧b < B∧W.cell? ⟨b,o+i,none⟩=some (.string (tx i))
theorem values_looks (B Bs:Nat) (d:Option Addr) (dc n:Nat) (tx:Nat->ByteArray) (hn:n<=1048576):
  LooksC Tryz.prog 185 #[.pointer (some ⟨Bs,0,none⟩)] (fun i=> #[.string (tx i)]) (SeesT B d tx) (fun _ _=> False) n (fun W=> W.cell? ⟨Bs,0,none⟩=some (.slice d n dc)):=by
 intro y J Jx W hok hstep h0
 refine callsIn_of_wp Tryz.func185 rfl trivial ?_ rfl
 simp only [Tryz.ntmps185,List.size_toArray,List.length_cons,List.length_nil,Nat.reduceAdd,Nat.reduceSub,Array.replicate_succ,Array.replicate_zero,List.push_toArray,List.append_toArray,List.nil_append,List.cons_append]
 have HS:=Kz hstep
 clear hstep
 gi_wp2
 gi_loopw [7] (fun x wr=> ∃i:Nat,i<=n∧x= .int .i64 i∧J i wr) (fun x _=> n - (intOf x).toNat)
 case atStart=> exact ⟨0,Nat.zero_le _,rfl,h0⟩
 case round=>
  obtain ⟨i,hi,rfl,hJ⟩:=hrel
  by_cases hlt:i < n
  ·rcases HS.out i wr hlt hJ with ⟨⟨b,o,rfl,_,c0⟩,fn,tmps,assign,body,hy,hR⟩ | ⟨h,_⟩
   ·gi_wp2
    refine hR.mono ?_
    rintro e W3 (⟨rfl,hJ3⟩ | ⟨rfl,hJx3⟩)
    ·gi_wp2
     go_roundw
     case rel=> exact ⟨i+1,by omega,by go_num,hJ3⟩
     case measure=> simp [intOf];omega
    ·gi_wp2
     refine bodyPost_ret (results_none rfl _ _ _) rfl ?_
     exact ⟨⟨_,rfl⟩,.inr hJx3⟩
   ·exact h.elim
  ·gi_wp2
   go_end0
   have:i=n:=by omega
   subst this
   exact ⟨⟨_,rfl⟩,.inl hJ⟩
def AqI (w1:World) (c:Nat) (l:List ByteArray) (i:Nat) (W:World):Prop:=
 K_ w1 W∧c < W.heap.size∧∃v:Value,W.cell? ⟨c,0,none⟩=some v∧W.frozen? ⟨c,0,none⟩=false∧W.ownsRow (c+1) 9 1 v (l.take i).length ((l.take i).map Value.string)
theorem AqI.calm {w1:World} {c:Nat} {l:List ByteArray} {i B:Nat} (hw:w1.heap.size<=c) (hc:c < B):Calm B (AqI w1 c l i):=by
 constructor
 ·rintro W o hB ⟨k,hz,v,h1,h2,h3⟩
  have ka:= (K_.refl W).alloc o
  exact ⟨k.trans ka,by rw [World.size_alloc];omega,v,(ka.cell hz).trans h1,(ka.rules.2 c 0 hz).trans h2,(But.of_kept (S:=fun _=> False) ka).owns h3 (fun _ _=> id)⟩
 ·rintro W y o o' hl ho hn ⟨k,hz,v,h1,h2,h3⟩
  have kb:But (fun b=> b=y) W (W.putObj y o'):= ⟨rfl,rfl,rfl,by rw [World.putObj_size];exact Nat.le_refl _,fun b _ e=> World.putObj_heap_other e⟩
  refine ⟨kb.kept k (fun b e=> by rw [e];omega),by rw [World.putObj_size];exact hz,v,(put_cell o' (by omega)).trans h1,(put_frozen o' (by omega)).trans h2,kb.owns h3 (fun b hb e=> ?_)⟩
  have:=type_cells (Yz h3 hb) (by rw [e];exact ho)
  rw [hn] at this
  cases this
theorem cell_calm {B:Nat} {v:Value} {c o:Nat} (hc:c < B):Calm B (fun W=> W.cell? ⟨c,o,none⟩=some v):=by
 constructor
 ·intro W ob hB h1
  obtain ⟨ob',h2,_⟩:=cells_of_cell h1
  exact (((K_.refl W).alloc ob).cell (heap_lt h2)).trans h1
 ·intro W y ob o' hl ho hn h1
  exact (put_cell o' (by omega)).trans h1
theorem seesT_calm {B:Nat} {d:Option Addr} {tx:Nat->ByteArray} {i C:Nat} (h:B<=C):Calm C (SeesT B d tx i):=by
 constructor
 ·rintro W ob hB ⟨b,o,rfl,hb,h1⟩
  exact ⟨b,o,rfl,hb,(cell_calm (Nat.lt_of_lt_of_le hb h)).1 W ob hB h1⟩
 ·rintro W y ob o' hl ho hn ⟨b,o,rfl,hb,h1⟩
  exact ⟨b,o,rfl,hb,(cell_calm (Nat.lt_of_lt_of_le hb h)).2 W y ob o' hl ho hn h1⟩
theorem info_partsS : ∃ic,Tryz.prog.info? 9=some ic∧ic.zero=some (.string ByteArray.empty)∧ic.size=1∧ic.bytes=16:=info_parts Tryz.infoStr
theorem appendSeq_any (w:World) (Bs:Nat) (d:Option Addr) (dc:Nat) (l:List ByteArray) (hn:l.length<=1048576) (hBs:Bs < w.heap.size) (hc:w.cell? ⟨Bs,0,none⟩=some (.slice d l.length dc)) (hS:Strs w d l):
  Calls Tryz.prog 203 #[.slice none 0 0,.func (.func 185) #[] #[.pointer (some ⟨Bs,0,none⟩)]] w fun e w'=> ∃v,e= .returned v∧w'.ownsRow w.heap.size 9 1 v l.length (l.map Value.string)∧K_ w w':=by
 refine (callsIn_wide (n:=9)).1 ?_
 refine callsIn_of_wp_marks Tryz.func203 rfl trivial ?_ rfl
 simp only [Tryz.ntmps203,List.size_toArray,List.length_cons,List.length_nil,Nat.reduceAdd,Nat.reduceSub,Array.replicate_succ,Array.replicate_zero,List.push_toArray,List.append_toArray,List.nil_append,List.cons_append]
 gi_wp2_with fail
 obtain ⟨W0,hW0⟩: ∃W0,w.alloc (.cells #[.slice none 0 0] 25)=W0:= ⟨_,rfl⟩
 rw [hW0]
 have K0:K_ w W0:=by rw [<-hW0];exact (K_.refl _).alloc _
 have z0:W0.heap.size=w.heap.size+1:=by rw [<-hW0];simp
 obtain ⟨q0,q1,_⟩:=box1 (w:=w) (v:= .slice none 0 0) (t:=25) (w1:=W0) (by rw [hW0];exact K_.refl _)
 have hc0:= (K0.cell hBs).trans hc
 obtain ⟨tx,htx⟩: ∃tx:Nat->ByteArray,∀i,tx i=l.getD i ByteArray.empty:= ⟨_,fun _=> rfl⟩
 have HSees:Hid (∀i W,i < l.length->K_ w W->SeesT w.heap.size d tx i W):=fun i W hi K=> by
  obtain ⟨b,o,e,hb,hcc⟩:=hS i hi
  exact ⟨b,o,e,hb,by rw [htx];exact (K.cell hb).trans hcc⟩
 have HTx:=Kz htx
 clear htx
 refine loop_looksC (values_looks w.heap.size Bs d dc l.length tx hn) rfl (enters_of Tryz.func185 (by kernel_rfl) rfl) (cell_calm (by omega)) hc0 (fun _=> rfl)
  (AqI w w.heap.size l) (fun _ _=> False) (fun i=> AqI.calm (Nat.le_refl _) (by omega)) (fun _=> calm_false _)
  ⟨K0,by omega,.slice none 0 0,q0,q1,by rw [List.take_zero];exact World.ownsRow_nil _ _ _ _⟩
  (fun i=> { tmps:= #[.slice none 0 0,.func (.func 185) #[] #[.pointer (some ⟨Bs,0,none⟩)],.pointer (some ⟨w.heap.size,0,none⟩),undef,.slice none 0 0,.string (tx i),.func (.func 185) #[] #[.pointer (some ⟨Bs,0,none⟩)],.string (tx i),undef,undef,undef,undef,undef],defers:=[] }) ?assign ?calm ?step ?done ?stop
 case assign=>
  intro y i W K hK
  gi_wp2
  exact hK
 case calm=> exact fun i=> seesT_calm (by omega)
 case stop=>
  intro D c W _ h _
  exact h.elim
 case step=>
  rintro i W hi ⟨k,hz,v,h1,h2,h3⟩
  refine .inl ⟨HSees.out i W hi k, ?_⟩
  clear h3 h2 h1 v hz k
  clear W
  rintro y W _ ⟨k,hz,v,h1,h2,h3⟩ hzW
  obtain ⟨av,cv,rfl⟩:=own_slice h3
  obtain ⟨us,hus⟩: ∃us,us=l.take i:= ⟨_,rfl⟩
  have hnl:us.length<=1048576:=by rw [hus,List.length_take];omega
  rw [<-hus] at h3 h1
  obtain ⟨nm,hnm⟩: ∃nm,nm=tx i:= ⟨_,rfl⟩
  rw [<-hnm]
  have HNx:Hid (l.take (i+1)=us++ [nm]):=by
   show l.take (i+1)=us++ [nm]
   rw [List.take_succ_eq_append_getElem hi,hus,hnm,HTx.out]
   simp [List.getD,hi]
  have H3:=Kz h3
  clear h3 q0 q1 hc0 hW0 hnm hus
  obtain ⟨ic,hc0,hc1,hc2,hc3⟩:=info_partsS
  have hbw:w.heap.size+1<=W.heap.size:=by omega
  obtain ⟨V,hV⟩: ∃V,V=W.alloc (.cells #[.string nm] 9):= ⟨_,rfl⟩
  have kV:K_ W V:=by rw [hV];exact (K_.refl _).alloc _
  have HKV:=Kz kV
  have HOw:=Kz ((But.of_kept (S:=fun _=> False) kV).owns H3.out (fun _ _=> id))
  have hbz:w.heap.size+1<=V.heap.size:=Nat.le_trans hbw kV.size
  have HNw:Hid (∀j u,([.string nm]:List Value)[j]? =some u->V.cell? ((⟨W.heap.size,0,none⟩:Addr).add j)=some u):=fun j u hu=> by rw [Addr.add_mid,hV];exact Xz W #[.string nm] 9 j u hu
  have HOne:Hid (∀u∈([.string nm]:List Value),u.oneCell'=true):=fun u hu=> by simp only [List.mem_cons,List.not_mem_nil,or_false] at hu;subst hu;rfl
  have HKO:Hid (KeepsOthers W V):=by rw [hV];exact KeepsOthers.alloc _ _
  rw [hV] at HOw HNw hbz
  have HV:=Kz hV
  clear kV hV
  gi_wp2_with (gi_at_builtin;refine wpListIn_append_own _ rfl (.tmp 8) (.tmp 10) 25 rfl (w.heap.size+1) 9 ic _ 1 16 Tryz.underlying25 hc0 hc1 hc2 hc3 rfl (by decide) (.slice av us.length cv) us.length (us.map Value.string) rfl HOw.out ⟨W.heap.size,0,none⟩ 1 1 [.string nm] rfl rfl HNw.out HOne.out (by unfold maxLen;omega) (by omega) hbz ?_;intro v' w9 hown2 hgr _;rw [<-HV.out] at hgr HOw;have hrow: ∀b,(Value.slice av us.length cv).ownBlock=some b->w.heap.size+1<=b:=fun b e=> (HOw.out.lt b e).1;have k69:But (fun b=> (Value.slice av us.length cv).ownBlock=some b) V w9:=But.of_grown hgr (fun b e=> e);have hz6:w.heap.size < V.heap.size:=Nat.lt_of_lt_of_le hz HKV.out.size;have s9:w9.cell? ⟨w.heap.size,0,none⟩=some (.slice av us.length cv):= (k69.cell hz6 (fun e=> by have:=hrow _ e;omega)).trans ((HKV.out.cell hz).trans h1);have f9:w9.frozen? ⟨w.heap.size,0,none⟩=false:= (World.frozen?_of_block (w:=V) (a:= ⟨w.heap.size,0,none⟩) (k69.block w.heap.size hz6 (fun e=> by have:=hrow _ e;omega))).trans ((HKV.out.rules.2 _ _ hz).trans h2);have z9:w.heap.size < w9.heap.size:=Nat.lt_of_lt_of_le hz6 k69.size;have K19:=Kz (k69.kept (k.trans HKV.out) (fun b e=> by have:=hrow b e;omega));have HKO9:=Kz (HKO.out.trans (KeepsOthers.of_grownBy hgr (fun b o e ho=> type_cells (Yz HOw.out e) ho)));have HO9:=Kz hown2;obtain ⟨da2,ac2,rfl⟩:=own_slice hown2;clear hown2 hgr k69 hrow HV HOw)
  have HKF:Hid (KeepsFrom W0.heap.size W (w9.setCell ⟨w.heap.size,0,none⟩ (.slice da2 (us.length+1) ac2))):= (HKO9.out.trans (KeepsOthers.setCell _ _ _)).from _
  refine ⟨HKF.out,K19.out.setCell (Nat.le_refl _) _,by rw [size_setCell];exact z9,_,World.cell?_setCell_same _ _ _ s9,by rw [World.frozen?_setCell];exact f9, ?_⟩
  have HO:w9.ownsRow (w.heap.size+1) 9 1 (.slice da2 (us.length+1) ac2) (us++ [nm]).length ((us++ [nm]).map Value.string):=by rw [List.length_append,List.map_append];exact HO9.out
  rw [HNx.out]
  exact (But.set (S:=fun b=> b=w.heap.size) (But.of_kept (K_.refl w9)) (p:= ⟨w.heap.size,0,none⟩) rfl _).owns HO (fun b e e2=> by have:= (HO.lt b e).1;omega)
 case done=>
  rintro D W hD ⟨k,hz,v,h1,h2,h3⟩ hdef
  rw [List.take_length] at h3
  have hwD:w.heap.size<=D:=by omega
  have kb:But (fun b=> b=D) W (W.putObj D (.deferred none)):= ⟨rfl,rfl,rfl,by rw [World.putObj_size];exact Nat.le_refl _,fun b _ e=> World.putObj_heap_other e⟩
  have HFin:Hid (K_ w (W.putObj D (.deferred none))∧(W.putObj D (.deferred none)).ownsRow w.heap.size 9 1 v l.length (l.map Value.string)):=by
   refine ⟨kb.kept k (fun b e=> by rw [e];exact hwD),owns_base (kb.owns h3 (fun b hb e=> ?_)) (by omega)⟩
   have:=type_cells (Yz h3 hb) (by rw [e];exact hdef)
   cases this
  clear h3 kb
  gi_wp2
  exact ⟨by simp,.inl ⟨_,_,rfl,run_takeDeferred hdef,_,results_tmp rfl _ _ _,v,rfl,HFin.out.2,HFin.out.1⟩⟩
theorem collect_any (w:World) (Bs:Nat) (d:Option Addr) (dc:Nat) (l:List ByteArray) (hn:l.length<=1048576) (hBs:Bs < w.heap.size) (hc:w.cell? ⟨Bs,0,none⟩=some (.slice d l.length dc)) (hS:Strs w d l):
  Calls Tryz.prog 182 #[.func (.func 185) #[] #[.pointer (some ⟨Bs,0,none⟩)]] w fun e w'=> ∃v,e= .returned v∧w'.ownsRow w.heap.size 9 1 v l.length (l.map Value.string)∧K_ w w':=by
 go_enter Tryz.func182,Tryz.ntmps182
 go_wp2_with fail
 refine (appendSeq_any w Bs d dc l hn hBs hc hS).mono ?_
 rintro e w1 ⟨v,rfl,h1,k1⟩
 have H1:=Kz h1
 clear h1
 go_wp2_with fail
 go_ret
 exact ⟨v,rfl,H1.out,k1⟩
theorem values_any (w:World) (d:Option Addr) (n dc:Nat):
  Calls Tryz.prog 163 #[.slice d n dc] w fun e w'=> e= .returned (.func (.func 185) #[] #[.pointer (some ⟨w.heap.size,0,none⟩)])∧w'=w.alloc (.cells #[.slice d n dc] 25):=by
 go_enter Tryz.func163,Tryz.ntmps163
 go_wp2_with fail
 go_ret
 exact ⟨rfl,rfl⟩
