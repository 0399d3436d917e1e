import Derived.Test.YtgnkgfjmbmcfcaaGreatDoorKCDist
import Derived.Test.YtgnkgfjmbmcfcaaGreatDoorKBIn
set_option maxRecDepth 100000
set_option maxHeartbeats 25600000
namespace Go.Proofs.YtgnkgfjmbmcfcaaGreatDoor
open Go.RowKit
structure RowD where
 o:Nat
 e:TypeId
 sz:Nat
 v:Value
 n:Nat
 xs:List Value
def KB (cb qb:Nat) (R:List RowD) (x:Nat):Prop:=x=cb∨x=qb∨∃r∈R,r.v.ownBlock=some x
def crewG (w:World) (cb qb:Nat) (R:List RowD) (ps:List (Nat×ByteArray)):Ghost:= ⟨w,KB cb qb R,ps,fun _=> True⟩
structure CrewM (Kj:List Qq) (wz w:World) (cb qb mq:Nat) (g:ByteArray->Option Int) (R:List RowD) (ps:List (Nat×ByteArray)) (bb:Nat) (a:Option Addr) (cap:Nat) (rd:Option Addr) (rn rc mb mx:Nat) (ts:List Zx) (d:Option Addr) (dc:Nat) (f:ByteArray->Value) (ws:ByteArray->List Nat):Prop where
 bm:BM (crewG w cb qb R ps) Kj wz w bb a cap rd rn rc mb mx ts d dc f ws
 row:RowT w cb 142 11
 c0:w.cell? ⟨cb,0,none⟩=some (.pointer (some ⟨bb,0,none⟩))
 c2:w.cell? ⟨cb,2,none⟩=some (.map (some qb))
 c4:w.cell? ⟨cb,4,none⟩=some (.func (.func 65) #[] #[])
 c6:w.cell? ⟨cb,6,none⟩=some (.func (.func 66) #[] #[])
 c8:w.cell? ⟨cb,8,none⟩=some (.func (.func 67) #[] #[])
 c10:w.cell? ⟨cb,10,none⟩=some (.func (.func 68) #[] #[])
 caus:CausM w qb mq g
 low:wz.heap.size<=cb
 qlow:wz.heap.size<=qb
 rows: ∀r∈R,w.cell? ⟨cb,r.o,none⟩=some r.v∧w.ownsRow wz.heap.size r.e r.sz r.v r.n r.xs∧r.v.ownBlock≠some cb
 ros: ∀r∈R,r.o=1∨r.o=3∨r.o=5∨r.o=7∨r.o=9
 rod: (R.map (·.o)).Nodup
 sep:R.Pairwise fun r r'=> ∀x,r.v.ownBlock=some x->r'.v.ownBlock≠some x
section
variable {Kj : List Qq} {wz w w' : World} {cb qb mq : Nat} {g : ByteArray -> Option Int} {R : List RowD} {ps : List (Nat × ByteArray)} {bb : Nat} {a : Option Addr} {cap : Nat} {rd : Option Addr} {rn rc mb mx : Nat} {ts : List Zx} {d : Option Addr} {dc : Nat} {f : ByteArray -> Value} {ws : ByteArray -> List Nat}
theorem KB.lt (h:CrewM Kj wz w cb qb mq g R ps bb a cap rd rn rc mb mx ts d dc f ws) {x:Nat} (hx:KB cb qb R x):x < w.heap.size∧wz.heap.size<=x:=by
 rcases hx with rfl | rfl | ⟨r,hr,e⟩
 ·exact ⟨h.row.lt,h.low⟩
 ·exact ⟨h.caus.lt,h.qlow⟩
 ·have:= (h.rows r hr).2.1.lt x e
  exact ⟨this.2,this.1⟩
theorem CrewM.bench {S:Nat->Prop} (h:CrewM Kj wz w cb qb mq g R ps bb a cap rd rn rc mb mx ts d dc f ws) (k:But S w w') (hS: ∀x,S x->KB cb qb R x) {R':List RowD} (hK: ∀x,KB cb qb R' x->x < w'.heap.size∧(KB cb qb R x∨w.heap.size<=x)) {ps':List (Nat×ByteArray)} (hps: ∀p∈ps',∃t∈ts,t.tb=p.1∧t.r.name=p.2):
  BM (crewG w' cb qb R' ps') Kj wz w' bb a cap rd rn rc mb mx ts d dc f ws:=by
 have ho:=h.bm.oth
 have nK: ∀x,KB cb qb R' x->KB cb qb R x∨w.heap.size<=x:=fun x hx=> (hK x hx).2
 have h3: ∀x,(Value.slice d ts.length dc).ownBlock=some x->¬KB cb qb R x:=fun x hx e=> h.bm.gi x hx ⟨trivial,e⟩
 have hb:= (h.bm.as (G':=Ghost.no wz) (Fen.no h.bm.kw.size) (fun _ _ h=> h.1)).but k (fun x hx=> (KB.lt h (hS x hx)).2) (fun e=> ho.nb (hS _ e)) (fun e=> ho.nm (hS _ e)) (fun x hx e=> h3 x hx (hS x e)) (fun s x hx e=> ho.nf s x hx (hS x e)) (fun t ht=> ⟨fun e=> (ho.nt t ht).1 (hS _ e),fun x hx e=> (ho.nt t ht).2 x hx (hS x e)⟩) (fun _ _=> id)
 have hlt:bb < w.heap.size∧mb < w.heap.size:= ⟨h.bm.row.lt,by obtain ⟨N,D,_,hM,_⟩:=h.bm.map;exact hM.lt⟩
 refine hb.as ⟨Nat.le_refl _,fun x hx=> (hK x hx).1,fun _ _=> rfl,fun e=> ?_,fun e=> ?_,fun t ht=> ⟨fun e=> ?_,fun x hx e=> ?_⟩,fun s x hx e=> ?_,hps⟩ (fun x hx e=> ?_)
 ·rcases nK _ e with e | e
  ·exact ho.nb e
  ·omega
 ·rcases nK _ e with e | e
  ·exact ho.nm e
  ·omega
 ·rcases nK _ e with e | e
  ·exact (ho.nt t ht).1 e
  ·have:= (h.bm.task t ht).row.lt;omega
 ·rcases nK _ e with e | e
  ·exact (ho.nt t ht).2 x hx e
  ·have:= ((h.bm.task t ht).own_type hx).2.2;omega
 ·rcases nK _ e with e | e
  ·exact ho.nf s x hx e
  ·have:= ((h.bm.wrow s).lt x hx).2;omega
 ·rcases nK _ e.2 with e | e
  ·exact h3 x hx e
  ·have:= (h.bm.items.lt x hx).2;omega
theorem CrewM.kept (h:CrewM Kj wz w cb qb mq g R ps bb a cap rd rn rc mb mx ts d dc f ws) (k:K_ w w'):CrewM Kj wz w' cb qb mq g R ps bb a cap rd rn rc mb mx ts d dc f ws:=by
 have hb:=h.row.lt
 have kk:But (fun _=> False) w w':= .of_kept k
 exact ⟨h.bench kk (fun _ h=> h.elim) (fun x hx=> ⟨Nat.lt_of_lt_of_le (KB.lt h hx).1 k.size,.inl hx⟩) h.bm.oth.has,h.row.kept k,(k.cell hb).trans h.c0,(k.cell hb).trans h.c2,(k.cell hb).trans h.c4,(k.cell hb).trans h.c6,(k.cell hb).trans h.c8,(k.cell hb).trans h.c10,h.caus.but kk id,h.low,h.qlow,fun r hr=> ⟨(k.cell hb).trans (h.rows r hr).1,ownsRow_kept' (h.rows r hr).2.1 k,(h.rows r hr).2.2⟩,h.ros,h.rod,h.sep⟩
theorem CrewM.causTurn {mq':Nat} {g':ByteArray->Option Int} (h:CrewM Kj wz w cb qb mq g R ps bb a cap rd rn rc mb mx ts d dc f ws) (k:But (fun x=> x=qb) w w') (hc:CausM w' qb mq' g'):CrewM Kj wz w' cb qb mq' g' R ps bb a cap rd rn rc mb mx ts d dc f ws:=by
 have hb:=h.row.lt
 have nb: ¬cb=qb:=h.caus.ne h.row.type
 exact ⟨h.bench k (fun x e=> .inr (.inl e)) (fun x hx=> ⟨Nat.lt_of_lt_of_le (KB.lt h hx).1 k.size,.inl hx⟩) h.bm.oth.has,k.row h.row nb,(k.cell hb nb).trans h.c0,(k.cell hb nb).trans h.c2,(k.cell hb nb).trans h.c4,(k.cell hb nb).trans h.c6,(k.cell hb nb).trans h.c8,(k.cell hb nb).trans h.c10,hc,h.low,h.qlow,fun r hr=> ⟨(k.cell hb nb).trans (h.rows r hr).1,k.owns (h.rows r hr).2.1 (fun x hx e=> h.caus.ne (Yz (h.rows r hr).2.1 hx) e),(h.rows r hr).2.2⟩,h.ros,h.rod,h.sep⟩
theorem CrewM.rowTurn (h:CrewM Kj wz w cb qb mq g R ps bb a cap rd rn rc mb mx ts d dc f ws) {i:Nat} {r r':RowD} (hi:R[i]? =some r) (ho:r'.o=r.o) (k:But (fun x=> x=cb∨r.v.ownBlock=some x) w w') (oth: ∀j,j≠r.o->w'.cell? ⟨cb,j,none⟩=w.cell? ⟨cb,j,none⟩) (hr:RowT w' cb 142 11)
  (hc:w'.cell? ⟨cb,r.o,none⟩=some r'.v) (hrow:w'.ownsRow wz.heap.size r'.e r'.sz r'.v r'.n r'.xs) (hne:r'.v.ownBlock≠some cb) (hnew: ∀x,r'.v.ownBlock=some x->r.v.ownBlock=some x∨w.heap.size<=x):
  CrewM Kj wz w' cb qb mq g (R.set i r') ps bb a cap rd rn rc mb mx ts d dc f ws:=by
 have hrR:r∈R:=List.mem_of_getElem? hi
 have hil:= (List.getElem?_eq_some_iff.1 hi).1
 have hmem: ∀s∈R.set i r',s=r'∨∃j,j≠i∧R[j]? =some s:=fun s hs=> by
  obtain ⟨j,hj,e⟩:=List.getElem_of_mem hs
  have e1: (R.set i r')[j]? =some s:=by rw [List.getElem?_eq_getElem hj,e]
  by_cases ej:i=j
  ·subst ej
   rw [List.getElem?_set_self hil] at e1
   exact .inl (Option.some.inj e1).symm
  ·rw [List.getElem?_set_ne ej] at e1
   exact .inr ⟨j,fun x=> ej x.symm,e1⟩
 have hsep: ∀(j:Nat) (s:RowD),j≠i->R[j]? =some s->∀x,r.v.ownBlock=some x->s.v.ownBlock≠some x:=fun j s hj hs x hx e=> by
  obtain ⟨hjl,ejs⟩:=List.getElem?_eq_some_iff.1 hs
  obtain ⟨_,eir⟩:=List.getElem?_eq_some_iff.1 hi
  have hp:=List.pairwise_iff_getElem.1 h.sep
  rcases Nat.lt_or_gt_of_ne hj with hlt | hlt
  ·exact hp j i hjl hil hlt x (by rw [ejs];exact e) (by rw [eir];exact hx)
  ·exact hp i j hil hjl hlt x (by rw [eir];exact hx) (by rw [ejs];exact e)
 have hod: ∀(j:Nat) (s:RowD),j≠i->R[j]? =some s->s.o≠r.o:=fun j s hj hs e=> by
  obtain ⟨hjl,ejs⟩:=List.getElem?_eq_some_iff.1 hs
  obtain ⟨_,eir⟩:=List.getElem?_eq_some_iff.1 hi
  exact hj ((List.getElem_inj h.rod (i:=j) (j:=i) (h₀:=by simpa using hjl) (h₁:=by simpa using hil)).1 (by simp [ejs,eir,e]))
 have nq: ¬(qb=cb∨r.v.ownBlock=some qb):=by
  rintro (e | e)
  ·exact h.caus.ne h.row.type e.symm
  ·exact h.caus.ne (Yz (h.rows r hrR).2.1 e) rfl
 have hro:=h.ros r hrR
 have hK': ∀x,KB cb qb (R.set i r') x->x < w'.heap.size∧(KB cb qb R x∨w.heap.size<=x):=fun x hx=> by
  rcases hx with rfl | rfl | ⟨s,hs,e⟩
  ·exact ⟨hr.lt,.inl (.inl rfl)⟩
  ·exact ⟨Nat.lt_of_lt_of_le h.caus.lt k.size,.inl (.inr (.inl rfl))⟩
  ·rcases hmem s hs with rfl | ⟨j,hj,hs'⟩
   ·refine ⟨(hrow.lt x e).2, ?_⟩
    rcases hnew x e with e | e
    ·exact .inl (.inr (.inr ⟨r,hrR,e⟩))
    ·exact .inr e
   ·have hm:=List.mem_of_getElem? hs'
    exact ⟨Nat.lt_of_lt_of_le ((h.rows s hm).2.1.lt x e).2 k.size,.inl (.inr (.inr ⟨s,hm,e⟩))⟩
 refine ⟨h.bench k (fun x hx=> by rcases hx with e | e;exact .inl e;exact .inr (.inr ⟨r,hrR,e⟩)) hK' h.bm.oth.has,hr,(oth 0 (by omega)).trans h.c0,(oth 2 (by omega)).trans h.c2,(oth 4 (by omega)).trans h.c4,(oth 6 (by omega)).trans h.c6,(oth 8 (by omega)).trans h.c8,(oth 10 (by omega)).trans h.c10,h.caus.but k nq,h.low,h.qlow,fun s hs=> ?_,fun s hs=> ?_, ?_, ?_⟩
 ·rcases hmem s hs with rfl | ⟨j,hj,hs'⟩
  ·exact ⟨by rw [ho];exact hc,hrow,hne⟩
  ·have hm:=List.mem_of_getElem? hs'
   obtain ⟨g1,g2,g3⟩:=h.rows s hm
   refine ⟨(oth s.o (hod j s hj hs')).trans g1,k.owns g2 (fun x hx e=> ?_),g3⟩
   rcases e with e | e
   ·exact g3 (by rw [hx,e])
   ·exact hsep j s hj hs' x e hx
 ·rcases hmem s hs with rfl | ⟨j,hj,hs'⟩
  ·rw [ho];exact hro
  ·exact h.ros s (List.mem_of_getElem? hs')
 ·have e: (R.set i r').map (·.o)=R.map (·.o):=by
   rw [List.map_set]
   have: (R.map (·.o))[i]? =some r'.o:=by rw [List.getElem?_map,hi,ho];rfl
   obtain ⟨hl,e⟩:=List.getElem?_eq_some_iff.1 this
   rw [<-e,List.set_getElem_self]
  rw [e]
  exact h.rod
 ·rw [List.pairwise_iff_getElem]
  intro p q hp hq hpq x hx e
  have hp': (R.set i r')[p]? =some (R.set i r')[p]:=List.getElem?_eq_getElem hp
  have hq': (R.set i r')[q]? =some (R.set i r')[q]:=List.getElem?_eq_getElem hq
  rw [List.length_set] at hp hq
  have apart: ∀(j:Nat) (s:RowD),j≠i->R[j]? =some s->r'.v.ownBlock=some x->s.v.ownBlock=some x->False:=fun j s hj hs e1 e2=> by
   rcases hnew x e1 with e3 | e3
   ·exact hsep j s hj hs x e3 e2
   ·have:= ((h.rows s (List.mem_of_getElem? hs)).2.1.lt x e2).2
    omega
  by_cases ep:i=p
  ·subst ep
   rw [List.getElem?_set_self hil] at hp'
   rw [List.getElem?_set_ne (by omega)] at hq'
   rw [<-Option.some.inj hp'] at hx
   exact apart q _ (by omega) hq' hx e
  ·by_cases eq:i=q
   ·subst eq
    rw [List.getElem?_set_self hil] at hq'
    rw [List.getElem?_set_ne ep] at hp'
    rw [<-Option.some.inj hq'] at e
    exact apart p _ (fun z=> ep z.symm) hp' e hx
   ·rw [List.getElem?_set_ne ep] at hp'
    rw [List.getElem?_set_ne eq] at hq'
    have hpw:=List.pairwise_iff_getElem.1 h.sep p q hp hq hpq x
    rw [List.getElem?_eq_getElem hp] at hp'
    rw [List.getElem?_eq_getElem hq] at hq'
    rw [<-Option.some.inj hp'] at hx
    rw [<-Option.some.inj hq'] at e
    exact hpw hx e
end
def rowE (loc:ByteArray->Nat) (es:Nat->EffX) (n:Nat) (a:Option Addr) (c:Nat):RowD:= ⟨1,147,7,.slice a n c,n,flatH (effC loc) es n⟩
def rowT (o:Nat) (loc:ByteArray->Nat) (f:Nat->ByteArray) (n:Nat) (a:Option Addr) (c:Nat):RowD:= ⟨o,145,1,.slice a n c,n,flatH (fun x=> [.pointer (some ⟨loc x,0,none⟩)]) f n⟩
def rowX (loc:ByteArray->Nat) (f:Nat->EffX) (n:Nat) (a:Option Addr) (c:Nat):RowD:= ⟨7,147,7,.slice a n c,n,flatH (effC loc) f n⟩
def rowI (f:Nat->Nat) (n:Nat) (a:Option Addr) (c:Nat):RowD:= ⟨9,3,1,.slice a n c,n,flatH (fun x:Nat=> [.int .i64 (x:Int)]) f n⟩
section
variable {Kj : List Qq} {wz w w' : World} {cb qb mq : Nat} {g : ByteArray -> Option Int} {R : List RowD} {ps : List (Nat × ByteArray)} {bb : Nat} {a : Option Addr} {cap : Nat} {rd : Option Addr} {rn rc mb mx : Nat} {ts : List Zx} {d : Option Addr} {dc : Nat} {f : ByteArray -> Value} {ws : ByteArray -> List Nat}
theorem eff_one' (loc:ByteArray->Nat) (x:EffX): ∀u∈effC loc x,u.oneCell'=true:=fun u hu=> by
 simp only [effC,List.mem_cons,List.not_mem_nil,or_false] at hu
 rcases hu with rfl | rfl | rfl | rfl | rfl | rfl | rfl <;> rfl
theorem CrewM.heap {α:Type} {cells:α->List Value} {fh:Nat->α} {n:Nat} {ha:Option Addr} {hc:Nat} {o:Nat} {e:TypeId} {sz:Nat} {fn:Value} (h:CrewM Kj wz w cb qb mq g R ps bb a cap rd rn rc mb mx ts d dc f ws) {i:Nat} (hi:R[i]? =some ⟨o,e,sz,.slice ha n hc,n,flatH cells fh n⟩) (hfn:w.cell? ⟨cb,o+1,none⟩=some fn) (ho:o < 10) (hone: ∀x,∀u∈cells x,u.oneCell'=true) (hsz: ∀x,(cells x).length=sz):
  HeapM w cb o wz.heap.size e sz cells fn fh n ha hc:=by
 obtain ⟨h1,h2,h3⟩:=h.rows _ (List.mem_of_getElem? hi)
 exact ⟨h1,hfn,h2,h.row.lt,⟨_,11,h.row,by omega⟩,h3,hone,hsz⟩
theorem CrewM.heapTurn {α:Type} {cells:α->List Value} {fh fh':Nat->α} {n n':Nat} {ha ha':Option Addr} {hc hc':Nat} {o:Nat} {e:TypeId} {sz:Nat} {fn:Value} (h:CrewM Kj wz w cb qb mq g R ps bb a cap rd rn rc mb mx ts d dc f ws) {i:Nat} (hi:R[i]? =some ⟨o,e,sz,.slice ha n hc,n,flatH cells fh n⟩) (hM:HeapM w' cb o wz.heap.size e sz cells fn fh' n' ha' hc') (hT:ToH w w' cb o ha n hc ha' n' hc'):
  CrewM Kj wz w' cb qb mq g (R.set i ⟨o,e,sz,.slice ha' n' hc',n',flatH cells fh' n'⟩) ps bb a cap rd rn rc mb mx ts d dc f ws:=
 h.rowTurn hi rfl hT.but hT.oth (hT.row _ _ h.row) hM.c0 hM.row hM.ne hT.new
theorem BM.taskCells {G:Ghost} (h:BM G Kj wz w bb a cap rd rn rc mb mx ts d dc f ws) {t:Zx} (ht:t∈ts):t.tb < w.heap.size∧w.cell? ⟨t.tb,0,none⟩=some (.string t.r.name)∧w.cell? ⟨t.tb,7,none⟩=some (.int .i64 t.cost)∧w.cell? ⟨t.tb,5,none⟩=some (.int .i64 t.r.Zj):=by
 have hT:=h.task t ht
 exact ⟨hT.row.lt,hT.rng 0 _ rfl,hT.rng 7 _ rfl,hT.rng 5 _ rfl⟩
end
theorem spentT_any (w:World) {tb:Nat} {v:Int} (hv:w.cell? ⟨tb,5,none⟩=some (.int .i64 v)):
  Calls Tryz.prog 118 #[.pointer (some ⟨tb,0,none⟩)] w fun e w'=> e= .returned (.bool (v == 20))∧w'=w:=by
 go_enter Tryz.func118,Tryz.ntmps118
 go_wp2
 go_ret
 exact ⟨rfl,rfl⟩
