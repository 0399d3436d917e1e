import Derived.Test.YtgnkgfjmbmcfcaaGreatDoorKBRange
import Derived.Test.YtgnkgfjmbmcfcaaGreatDoorKHInt
import Derived.Test.YtgnkgfjmbmcfcaaGreatDoorKHEff
import Derived.Test.YtgnkgfjmbmcfcaaGreatDoorKBEnd
import Derived.Shelf.RegionOpen
import Derived.OwnWalkIn
import Derived.LoopNIn
import Derived.LoopIn
set_option maxRecDepth 100000
set_option maxHeartbeats 25600000
namespace Go.Proofs.YtgnkgfjmbmcfcaaGreatDoor
open Go.RowKit Go.Proofs.Tryz
theorem lH{w:Qy}{b:Nat}{t:TypeId}(h:bZ w b t){o:Obj}(a:w.heap[b]? =some o):o.isCells=true:=by
 obtain⟨e,f,d⟩:=h;rw[d] at a;cases a
 rfl
section
variable {B : Nat} {Kf Kc : Nat -> Prop} {ps : List (Nat × Qw)} {W0 : Qy} {Kq : List Qz} {wz W W' : Qy} {bb : Nat} {a : Qx} {cap : Nat} {rd : Qx} {rn rc : Nat} {mb mx : Nat} {ts : List Zk} {d : Qx} {dc : Nat} {f : Qw -> QA} {ws : Qw -> List Nat}
theorem BM.as{G G':cO}(h:BM G Kq wz W bb a cap rd rn rc mb mx ts d dc f ws)(c:Fen G' W bb mb ts f)(e:∀x,(Value.slice d ts.length dc).ownBlock=some x->¬(G'.I x/\G'.K x)):BM G' Kq wz W bb a cap rd rn rc mb mx ts d dc f ws:=
 ⟨h.kw,h.row,h.c0,h.c1,h.c2,h.c3,h.c4,h.c5,h.low,h.items,h.fu,h.act,h.asc,h.tbs,h.sep,h.Ad,h.map,h.CG,h.iU,h.Af,h.CF,h.qb,c,e⟩
theorem BM.no{G:cO}(h:BM G Kq wz W bb a cap rd rn rc mb mx ts d dc f ws):BM (cO.no wz) Kq wz W bb a cap rd rn rc mb mx ts d dc f ws:=h.as (Fen.no h.kw.size) (fun _ _ h=>h.1)
theorem BM.block{G:cO}(h:BM G Kq wz W bb a cap rd rn rc mb mx ts d dc f ws){S:Nat->Prop}(j:¬S mb)(c:∀b,S b->∀t,¬bZ W b t):¬S bb/\¬S mb/\(∀b,(Value.slice d ts.length dc).ownBlock=some b->¬S b)/\(∀s b,(f s).ownBlock=some b->¬S b)/\∀t∈ts,¬S t.tb/\∀x∈t.own,¬S x:=
 ⟨fun e=>c _ e _ h.row.type,j,fun _b g e=>c _ e _ (Y_ h.items g),fun s _b g e=>c _ e _ (Y_ (h.iU s) g),fun t i=>⟨fun e=>c _ e _ (h.fu t i).row.type,fun _x k e=>c _ e _ ((h.fu t i).dY k).1⟩⟩
theorem qX(k:K_ W W')(B:Nat):KeepsFrom B W W':=⟨k.size,fun b _o _ a _=>(k.block b (aV a)).trans a⟩
end
structure n_ where
 o:Nat
 e:TypeId
 sz:Nat
 v:QA
 n:Nat
 xs:List QA
def KB(cb qb:Nat)(R:List n_)(x:Nat):Prop:=x=cb\/x=qb\/∃r∈R,r.v.ownBlock=some x
def Hz(w:Qy)(cb qb:Nat)(R:List n_)(ps:List (Nat×Qw)):cO:=⟨w,KB cb qb R,ps,fun _=>True⟩
structure bX (Kq:List Qz) (wz w:Qy) (cb qb mq:Nat) (g:Qw->Option Int) (R:List n_) (ps:List (Nat×Qw)) (bb:Nat) (a:Qx) (cap:Nat) (rd:Qx) (rn rc mb mx:Nat) (ts:List Zk) (d:Qx) (dc:Nat) (f:Qw->QA) (ws:Qw->List Nat):Prop where
 bm:BM (Hz w cb qb R ps) Kq wz w bb a cap rd rn rc mb mx ts d dc f ws
 row:aL w cb 142 11
 c0:w.cell? ⟨cb,0,none⟩=some (.pointer (some ⟨bb,0,none⟩))
 c2:w.cell? ⟨cb,2,none⟩=some (.map (some qb))
 c4:w.cell? ⟨cb,4,none⟩=some (.func (.func 65) #[] #[])
 c6:w.cell? ⟨cb,6,none⟩=some (.func (.func 66) #[] #[])
 c8:w.cell? ⟨cb,8,none⟩=some (.func (.func 67) #[] #[])
 c10:w.cell? ⟨cb,10,none⟩=some (.func (.func 68) #[] #[])
 iV:gK w qb mq g
 low:wz.heap.size<=cb
 GG:wz.heap.size<=qb
 rows:∀r∈R,w.cell? ⟨cb,r.o,none⟩=some r.v/\w.ownsRow wz.heap.size r.e r.sz r.v r.n r.xs/\r.v.ownBlock≠some cb
 ros:∀r∈R,r.o=1\/r.o=3\/r.o=5\/r.o=7\/r.o=9
 rod:(R.map (·.o)).Nodup
 sep:R.Pairwise fun r r'=>∀x,r.v.ownBlock=some x->r'.v.ownBlock≠some x
section
variable {Kq : List Qz} {wz w w' : Qy} {cb qb mq : Nat} {g : Qw -> Option Int} {R : List n_} {ps : List (Nat × Qw)} {bb : Nat} {a : Qx} {cap : Nat} {rd : Qx} {rn rc mb mx : Nat} {ts : List Zk} {d : Qx} {dc : Nat} {f : Qw -> QA} {ws : Qw -> List Nat}
theorem KB.lt(h:bX Kq wz w cb qb mq g R ps bb a cap rd rn rc mb mx ts d dc f ws){x:Nat}(b:KB cb qb R x):x<w.heap.size/\wz.heap.size<=x:=by
 rcases b with rfl|rfl|⟨r,c,e⟩
 ·exact⟨h.row.lt,h.low⟩
 ·exact⟨h.iV.lt,h.GG⟩
 ·have:=(h.rows r c).2.1.lt x e;exact⟨this.2,this.1⟩
theorem bX.Ms{S:Nat->Prop}(h:bX Kq wz w cb qb mq g R ps bb a cap rd rn rc mb mx ts d dc f ws)(k:But S w w')(i:∀x,S x->KB cb qb R x){m:List n_}(n:∀x,KB cb qb m x->x<w'.heap.size/\(KB cb qb R x\/w.heap.size<=x)){q:List (Nat×Qw)}(y:∀p∈q,∃t∈ts,t.tb=p.1/\t.r.name=p.2):
  BM (Hz w' cb qb m q) Kq wz w' bb a cap rd rn rc mb mx ts d dc f ws:=by
 have c:=h.bm.oth;have l:∀x,KB cb qb m x->KB cb qb R x\/w.heap.size<=x:=fun x b=>(n x b).2
 have v:∀x,(Value.slice d ts.length dc).ownBlock=some x->¬KB cb qb R x:=fun x b e=>h.bm.gi x b ⟨trivial,e⟩
 have z:=(h.bm.as (G':=cO.no wz) (Fen.no h.bm.kw.size) (fun _ _ h=>h.1)).but k (fun x b=>(KB.lt h (i x b)).2) (fun e=>c.nb (i _ e)) (fun e=>c.nm (i _ e)) (fun x b e=>v x b (i x e)) (fun s x b e=>c.nf s x b (i x e)) (fun t j=>⟨fun e=>(c.nt t j).1 (i _ e),fun x b e=>(c.nt t j).2 x b (i x e)⟩) (fun _ _=>id);have B:bb<w.heap.size/\mb<w.heap.size:=⟨h.bm.row.lt,by obtain⟨N,D,_,A,_⟩:=h.bm.map;exact A.lt⟩;refine z.as ⟨OU _,fun x b=>(n x b).1,fun _ _=>rfl,fun e=>?_,fun e=>?_,fun t j=>⟨fun e=>?_,fun x b e=>?_⟩,fun s x b e=>?_,y⟩ (fun x b e=>?_)
 ·rcases l _ e with e|e
  ·exact c.nb e
  ·omega
 ·rcases l _ e with e|e
  ·exact c.nm e
  ·omega
 ·rcases l _ e with e|e
  ·exact (c.nt t j).1 e
  ·have:=(h.bm.fu t j).row.lt;omega
 ·rcases l _ e with e|e
  ·exact (c.nt t j).2 x b e
  ·have:=((h.bm.fu t j).dY b).2.2;omega
 ·rcases l _ e with e|e
  ·exact c.nf s x b e
  ·have:=((h.bm.iU s).lt x b).2;omega
 ·rcases l _ e.2 with e|e
  ·exact v x b e
  ·have:=(h.bm.items.lt x b).2;omega
theorem bX.kept(h:bX Kq wz w cb qb mq g R ps bb a cap rd rn rc mb mx ts d dc f ws)(k:K_ w w'):bX Kq wz w' cb qb mq g R ps bb a cap rd rn rc mb mx ts d dc f ws:=by
 have b:=h.row.lt;have e:But (fun _=>False) w w':= .aj k;exact⟨h.Ms e (fun _ h=>h.elim) (fun x i=>⟨OV (KB.lt h i).1 k.size,.inl i⟩) h.bm.oth.has,h.row.kept k,(k.cell b).trans h.c0,(k.cell b).trans h.c2,(k.cell b).trans h.c4,(k.cell b).trans h.c6,(k.cell b).trans h.c8,(k.cell b).trans h.c10,h.iV.but e id,h.low,h.GG,fun r c=>⟨(k.cell b).trans (h.rows r c).1,ai (h.rows r c).2.1 k,(h.rows r c).2.2⟩,h.ros,h.rod,h.sep⟩
theorem bX.Mc{l:Nat}{m:Qw->Option Int}(h:bX Kq wz w cb qb mq g R ps bb a cap rd rn rc mb mx ts d dc f ws)(k:But (fun x=>x=qb) w w')(n:gK w' qb l m):bX Kq wz w' cb qb l m R ps bb a cap rd rn rc mb mx ts d dc f ws:=by
 have c:=h.row.lt;have b:¬cb=qb:=h.iV.ne h.row.type;exact⟨h.Ms k (fun x j=>.inr (.inl j)) (fun x e=>⟨OV (KB.lt h e).1 k.size,.inl e⟩) h.bm.oth.has,k.row h.row b,(k.cell c b).trans h.c0,(k.cell c b).trans h.c2,(k.cell c b).trans h.c4,(k.cell c b).trans h.c6,(k.cell c b).trans h.c8,(k.cell c b).trans h.c10,n,h.low,h.GG,fun r i=>⟨(k.cell c b).trans (h.rows r i).1,k.owns (h.rows r i).2.1 (fun x e j=>h.iV.ne (Y_ (h.rows r i).2.1 e) j),(h.rows r i).2.2⟩,h.ros,h.rod,h.sep⟩
theorem bX.Na(h:bX Kq wz w cb qb mq g R ps bb a cap rd rn rc mb mx ts d dc f ws){i:Nat}{r b:n_}(hi:R[i]? =some r)(L:b.o=r.o)(k:But (fun x=>x=cb\/r.v.ownBlock=some x) w w')(p:∀j,j≠r.o->w'.cell? ⟨cb,j,none⟩=w.cell? ⟨cb,j,none⟩)(P:aL w' cb 142 11)
  (Y:w'.cell? ⟨cb,r.o,none⟩=some b.v) (Q:w'.ownsRow wz.heap.size b.e b.sz b.v b.n b.xs) (Z:b.v.ownBlock≠some cb) (S:∀x,b.v.ownBlock=some x->r.v.ownBlock=some x\/w.heap.size<=x):
  bX Kq wz w' cb qb mq g (R.set i b) ps bb a cap rd rn rc mb mx ts d dc f ws:=by
 have E:r∈R:=Pj hi;have A:=(O_.1 hi).1;have M:∀s∈R.set i b,s=b\/∃j,j≠i/\R[j]? =some s:=fun s l=>by
  obtain⟨j,m,e⟩:=Ph l;have B:(R.set i b)[j]? =some s:=by rw[OZ m,e]
  by_cases N:i=j
  ·subst N;rw[Qe A] at B;exact .inl (PW B).symm
  ·rw[Pp N] at B;exact .inr ⟨j,fun x=>N x.symm,B⟩
 have T:∀(j:Nat) (s:n_),j≠i->R[j]? =some s->∀x,r.v.ownBlock=some x->s.v.ownBlock≠some x:=fun j s m l x c e=>by
  obtain⟨F,G⟩:=O_.1 l;obtain⟨_,H⟩:=O_.1 hi;have q:=Pg.1 h.sep;rcases Nat.lt_or_gt_of_ne m with O|O
  ·exact q j i F A O x (by rw[G];exact e) (by rw[H];exact c)
  ·exact q i j A F O x (by rw[H];exact c) (by rw[G];exact e)
 have a0:∀(j:Nat) (s:n_),j≠i->R[j]? =some s->s.o≠r.o:=fun j s m l e=>by
  obtain⟨F,G⟩:=O_.1 l;obtain⟨_,H⟩:=O_.1 hi;exact m ((List.getElem_inj h.rod (i:=j) (j:=i) (h₀:=by simpa using F) (h₁:=by simpa using A)).1 (by simp[G,H,e]))
 have nq:¬(qb=cb\/r.v.ownBlock=some qb):=by
  rintro (e|e)
  ·exact h.iV.ne h.row.type e.symm
  ·exact h.iV.ne (Y_ (h.rows r E).2.1 e) rfl
 have a1:=h.ros r E;have a2:∀x,KB cb qb (R.set i b) x->x<w'.heap.size/\(KB cb qb R x\/w.heap.size<=x):=fun x c=>by
  rcases c with rfl|rfl|⟨s,l,e⟩
  ·exact⟨P.lt,.inl (.inl rfl)⟩
  ·exact⟨OV h.iV.lt k.size,.inl (.inr (.inl rfl))⟩
  ·rcases M s l with rfl|⟨j,m,t⟩
   ·refine⟨(Q.lt x e).2, ?_⟩;rcases S x e with e|e
    ·exact .inl (.inr (.inr ⟨r,E,e⟩))
    ·exact .inr e
   ·have I:=Pj t;exact⟨OV ((h.rows s I).2.1.lt x e).2 k.size,.inl (.inr (.inr ⟨s,I,e⟩))⟩
 refine⟨h.Ms k (fun x c=>by rcases c with e | e;exact .inl e;exact .inr (.inr ⟨r,E,e⟩)) a2 h.bm.oth.has,P,(p 0 (by omega)).trans h.c0,(p 2 (by omega)).trans h.c2,(p 4 (by omega)).trans h.c4,(p 6 (by omega)).trans h.c6,(p 8 (by omega)).trans h.c8,(p 10 (by omega)).trans h.c10,h.iV.but k nq,h.low,h.GG,fun s l=>?_,fun s l=>?_, ?_, ?_⟩
 ·rcases M s l with rfl|⟨j,m,t⟩
  ·exact⟨by rw[L];exact Y,Q,Z⟩
  ·have I:=Pj t;obtain⟨g1,g2,U⟩:=h.rows s I;refine⟨(p s.o (a0 j s m t)).trans g1,k.owns g2 (fun x c e=>?_),U⟩;rcases e with e | e
   ·exact U (by rw[c,e])
   ·exact T j s m t x e c
 ·rcases M s l with rfl|⟨j,m,t⟩
  ·rw[L];exact a1
  ·exact h.ros s (Pj t)
 ·have e:(R.set i b).map (·.o)=R.map (·.o):=by
   rw[List.map_set];have:(R.map (·.o))[i]? =some b.o:=by rw[List.getElem?_map,hi,L];rfl
   obtain⟨hl,e⟩:=O_.1 this;rw[<-e,List.set_getElem_self]
  rw[e];exact h.rod
 ·rw[Pg];intro C D q J a3 x c e;have y:(R.set i b)[C]? =some (R.set i b)[C]:=OZ q;have z:(R.set i b)[D]? =some (R.set i b)[D]:=OZ J;rw[Qd] at q J;have apart:∀(j:Nat) (s:n_),j≠i->R[j]? =some s->b.v.ownBlock=some x->s.v.ownBlock=some x->False:=fun j s m l B V=>by
   rcases S x B with W|W
   ·exact T j s m l x W V
   ·have:=((h.rows s (Pj l)).2.1.lt x V).2;omega
  by_cases K:i=C
  ·subst K;rw[Qe A] at y;rw[Pp (by omega)] at z;rw[<-PW y] at c;exact apart D _ (by omega) z c e
  ·by_cases X:i=D
   ·subst X;rw[Qe A] at z;rw[Pp K] at y;rw[<-PW z] at e;exact apart C _ (fun a4=>K a4.symm) y e c
   ·rw[Pp K] at y;rw[Pp X] at z;have a5:=Pg.1 h.sep C D q J a3 x;rw[OZ q] at y;rw[OZ J] at z;rw[<-PW y] at c;rw[<-PW z] at e;exact a5 c e
end
def Oz(loc:Qw->Nat)(es:Nat->gM)(n:Nat)(a:Qx)(c:Nat):n_:=⟨1,147,7,.slice a n c,n,bK (dP loc) es n⟩
def NF(o:Nat)(loc:Qw->Nat)(f:Nat->Qw)(n:Nat)(a:Qx)(c:Nat):n_:=⟨o,145,1,.slice a n c,n,bK (fun x=>[.pointer (some ⟨loc x,0,none⟩)]) f n⟩
def Oo(loc:Qw->Nat)(f:Nat->gM)(n:Nat)(a:Qx)(c:Nat):n_:=⟨7,147,7,.slice a n c,n,bK (dP loc) f n⟩
def rowI(f:Nat->Nat)(n:Nat)(a:Qx)(c:Nat):n_:=⟨9,3,1,.slice a n c,n,bK (fun x:Nat=>[.int .i64 (x:Int)]) f n⟩
section
variable {Kq : List Qz} {wz w w' : Qy} {cb qb mq : Nat} {g : Qw -> Option Int} {R : List n_} {ps : List (Nat × Qw)} {bb : Nat} {a : Qx} {cap : Nat} {rd : Qx} {rn rc mb mx : Nat} {ts : List Zk} {d : Qx} {dc : Nat} {f : Qw -> QA} {ws : Qw -> List Nat}
theorem Dz(loc:Qw->Nat)(x:gM):∀u∈dP loc x,u.oneCell'=true:=fun u a=>by
 simp only[dP,PS,PT,or_false] at a;rcases a with rfl | rfl | rfl | rfl | rfl | rfl | rfl <;> rfl
theorem bX.heap{α:Type}{cells:α->List QA}{c:Nat->α}{n:Nat}{j:Qx}{k:Nat}{o:Nat}{e:TypeId}{b:Nat}{l:QA}(h:bX Kq wz w cb qb mq g R ps bb a cap rd rn rc mb mx ts d dc f ws){i:Nat}(hi:R[i]? =some ⟨o,e,b,.slice j n k,n,bK cells c n⟩)(m:w.cell? ⟨cb,o+1,none⟩=some l)(v:o<10)(p:∀x,∀u∈cells x,u.oneCell'=true)(q:∀x,(cells x).length=b):
  aK w cb o wz.heap.size e b cells l c n j k:=by
 obtain⟨r,s,t⟩:=h.rows _ (Pj hi);exact⟨r,m,s,h.row.lt,⟨_,11,h.row,by omega⟩,t,p,q⟩
theorem bX.qj{α:Type}{cells:α->List QA}{s m:Nat->α}{n b:Nat}{p h:Qx}{q j:Nat}{o:Nat}{e:TypeId}{k:Nat}{t:QA}(r:bX Kq wz w cb qb mq g R ps bb a cap rd rn rc mb mx ts d dc f ws){i:Nat}(hi:R[i]? =some ⟨o,e,k,.slice p n q,n,bK cells s n⟩)(l:aK w' cb o wz.heap.size e k cells t m b h j)(c:ToH w w' cb o p n q h b j):
  bX Kq wz w' cb qb mq g (R.set i ⟨o,e,k,.slice h b j,b,bK cells m b⟩) ps bb a cap rd rn rc mb mx ts d dc f ws:=
 r.Na hi rfl c.but c.oth (c.row _ _ r.row) l.c0 l.row l.ne c.new
theorem BM.uN{G:cO}(h:BM G Kq wz w bb a cap rd rn rc mb mx ts d dc f ws){t:Zk}(e:t∈ts):t.tb<w.heap.size/\w.cell? ⟨t.tb,0,none⟩=some (.string t.r.name)/\w.cell? ⟨t.tb,7,none⟩=some (.int .i64 t.cost)/\w.cell? ⟨t.tb,5,none⟩=some (.int .i64 t.r.Zq):=by
 have b:=h.fu t e;exact⟨b.row.lt,b.rng 0 _ rfl,b.rng 7 _ rfl,b.rng 5 _ rfl⟩
end
theorem Gv(w:Qy){tb:Nat}{v:Int}(a:w.cell? ⟨tb,5,none⟩=some (.int .i64 v)):
  Calls prog 118 #[.pointer (some ⟨tb,0,none⟩)] w fun e w'=>e= .returned (.bool (v == 20))/\w'=w:=by
 go_enter func118,ntmps118
 go_wp2
 go_ret
 exact⟨rfl,rfl⟩
open Go.RowKit Go.Shelf
attribute [local go_sem] Oper.semAt_some
def GK(d:Qx)(tb:Nat->Nat)(i:Nat)(W:Qy):Prop:=∃g,d=some ⟨g,0,none⟩/\W.cell? ⟨g,i,none⟩=some (.pointer (some ⟨tb i,0,none⟩))/\W.cell? ⟨tb i,1,none⟩=some (.bool false)/\W.cell? ⟨tb i,9,none⟩=some (.int .i64 0)
def LB(d:Qx)(tb:Nat->Nat)(i:Nat)(W:Qy):Prop:=∃g,d=some ⟨g,0,none⟩/\W.cell? ⟨g,i,none⟩=some (.pointer (some ⟨tb i,0,none⟩))/\(W.cell? ⟨tb i,1,none⟩=some (.bool true)\/(W.cell? ⟨tb i,1,none⟩=some (.bool false)/\∃op:Nat,op≠0/\W.cell? ⟨tb i,9,none⟩=some (.int .i64 (op:Int))))
theorem vw(bb:Nat)(d:Qx)(n dc:Nat)(tb:Nat->Nat)(w:n<=1048576):
  Looks prog 117 (.pointer (some ⟨bb,0,none⟩)) (fun i=>#[.pointer (some ⟨tb i,0,none⟩)]) (GK d tb) (LB d tb) n (fun W=>W.cell? ⟨bb,3,none⟩=some (.slice d n dc)):=by
 intro y J z W A a f;refine callsIn_of_wp func117 rfl trivial ?_ rfl;simp only[ntmps117,List.size_toArray,PP,List.length_nil,Nat.reduceAdd,Nat.reduceSub,Array.replicate_succ,Array.replicate_zero,List.push_toArray,List.append_toArray,List.nil_append,List.cons_append];have g:=Kz a;clear a
 gi_wp2
 gi_loopw [12] (fun x wr=>∃i:Nat,i<=n/\x= .int .i64 i/\J i wr) (fun x _=>n-(intOf x).toNat)
 case atStart=>exact⟨0,OW _,rfl,f⟩
 case round=>
  obtain⟨i,B,rfl,b⟩:=hrel;by_cases j:i<n
  ·rcases g.o i wr j b with⟨⟨k,rfl,l,c,m⟩,C,D,E,F,G,p⟩|⟨⟨k,rfl,l,q⟩,e⟩
   ·gi_wp2
    refine p.mono ?_;rintro H I (⟨rfl,r⟩|⟨rfl,s⟩)
    ·gi_wp2
     go_roundw
     case rel=>exact⟨i+1,by omega,by go_num,r⟩
     case measure=>simp[intOf];omega
    ·gi_wp2
     refine bodyPost_ret (results_none rfl _ _ _) rfl ?_;exact⟨⟨_,rfl⟩,.inr s⟩
   ·rcases q with c|⟨c,t,v,m⟩
    ·gi_wp2
     refine⟨fun _ h=>(by cases h), ?_⟩
     gi_wp2
     go_roundw
     case rel=>exact⟨i+1,by omega,by go_num,e⟩
     case measure=>simp[intOf];omega
    ·have K:((t:Int) == 0)=false:=by simpa using v
     gi_wp2
     refine⟨fun _ h=>(by cases h), ?_⟩
     gi_wp2
     go_roundw
     case rel=>exact⟨i+1,by omega,by go_num,e⟩
     case measure=>simp[intOf];omega
  ·gi_wp2
   go_end0
   have:i=n:=by omega
   subst this;exact⟨⟨_,rfl⟩,.inl b⟩
theorem Es{w w1:Qy}{v:QA}{t:TypeId}(k:K_ (w.alloc (.cells #[v] t)) w1):w1.cell? ⟨w.heap.size,0,none⟩=some v/\w1.frozen? ⟨w.heap.size,0,none⟩=false/\bZ w1 w.heap.size t:=by
 have a:w.heap.size<(w.alloc (.cells #[v] t)).heap.size:=by simp
 exact⟨(k.cell a).trans (by simp),(k.rules.2 _ _ a).trans (by simp),#[v],_,(k.block _ a).trans (World.alloc_heap_new w _)⟩
theorem Ol{w w1:Qy}{v0 v1:QA}{t:TypeId}(k:K_ (w.alloc (.cells #[v0,v1] t)) w1):w1.cell? ⟨w.heap.size,0,none⟩=some v0/\w1.cell? ⟨w.heap.size,1,none⟩=some v1:=by
 have a:w.heap.size<(w.alloc (.cells #[v0,v1] t)).heap.size:=by simp
 constructor
 ·rw[k.cell a];simp
 ·rw[k.cell a];simp
def jZ(ts:List Zk):List Qw:=ts.map fun t=>t.r.name
def Nw(ts:List Zk):List (Nat×Qw):=ts.map fun t=>(t.tb,t.r.name)
def rX(ts:List Zk)(i:Nat):Nat:=(ts.map fun t=>t.tb).getD i 0
theorem AV :∀(l:List Qw) (σ:Env),eT l σ<=23*l.length
 | [],_=>OU _
 | n :: l,σ=>by
  have b:=AV l σ;have c:lZ (σ n)<=23:=by
   unfold lZ
   split
   ·exact OU _
   ·split <;> omega
  have e:eT (n :: l) σ=lZ (σ n)+eT l σ:=by simp[eT]
  rw[e,PP];omega
section
variable {B : Nat} {G : cO} {Kq : List Qz} {wz W W' : Qy} {bb : Nat} {a : Qx} {cap : Nat} {rd : Qx} {rn rc : Nat} {mb mx : Nat} {ts : List Zk} {d0 d : Qx} {dc : Nat} {f : Qw -> QA} {ws : Qw -> List Nat}
theorem jc{l c o:Nat}(a:Obj)(h:c≠l):(W.putObj l a).cell? ⟨c,o,none⟩=W.cell? ⟨c,o,none⟩:=Pi (w:=W) (World.putObj_heap_other h)
theorem FD{l c o:Nat}(a:Obj)(h:c≠l):(W.putObj l a).frozen? ⟨c,o,none⟩=W.frozen? ⟨c,o,none⟩:=World.frozen?_of_block (w:=W) (World.putObj_heap_other h)
theorem BS.can(h:BS Kq ts ws){t:Zk}(b:t∈ts):bL (Kk Kq) (Qq (Qj ts)) t.r↔t.r.over=false/\t.op=0:=by
 obtain⟨A,c,_⟩:=(h.good.good t.r (PV b)).act;rw[AC (by rw[c];rfl),h.op t b,Pk]
theorem Aq{tb:Nat->Nat}{i:Nat}(_hd:∀g,d0=some ⟨g,0,none⟩->g<B):Calm B (fun W=>GK d0 tb i W):=by
 have h:∀{W:Qy} {c o:Nat} {v:QA},W.cell? ⟨c,o,none⟩=some v->c<W.heap.size:=fun {W c o v} j=>by
  obtain⟨f,a,_⟩:=cells_of_cell j;exact aV a
 have k:∀{W:Qy} {c o l:Nat} {v:QA} {f:Obj},W.cell? ⟨c,o,none⟩=some v->W.heap[l]? =some f->f.isCells=false->c≠l:=fun {W c o l v f} j a d e=>by
  obtain⟨s,b,r⟩:=cells_of_cell j;simp only at b;rw[e,a] at b;cases b;rw[d] at r;cases r
 constructor
 ·rintro W o t ⟨g,e,a,d,b⟩;have m:=(K_.refl W).alloc o;exact⟨g,e,(m.cell (h a)).trans a,(m.cell (h d)).trans d,(m.cell (h b)).trans b⟩
 ·rintro W l o n w p q ⟨g,e,a,d,b⟩;exact⟨g,e,(jc n (k a p q)).trans a,(jc n (k d p q)).trans d,(jc n (k b p q)).trans b⟩
theorem GY{v:QA}{c:Nat}(e:c<B):Calm B (fun W=>W.cell? ⟨c,3,none⟩=some v):=by
 constructor
 ·intro W o f a;obtain⟨g,b,_⟩:=cells_of_cell a;exact (((K_.refl W).alloc o).cell (aV b)).trans a
 ·intro W l o d i j k a;exact (jc d (by omega)).trans a
theorem xJ(B:Nat):Calm B (fun _=>False):=⟨fun _ _ _ h=>h,fun _ _ _ _ _ _ _ h=>h⟩
theorem BM.apart{G:cO}(h:BM G Kq wz W bb a cap rd rn rc mb mx ts d dc f ws){k:Nat}(g:d=some ⟨k,0,none⟩):k<W.heap.size/\k≠bb/\k≠mb/\(∀t∈ts,k≠t.tb/\k∉t.own)/\∀s,(f s).ownBlock≠some k:=by
 subst g;have c:(Value.slice (some ⟨k,0,none⟩) ts.length dc).ownBlock=some k:=rfl;have b:=Y_ h.items c;obtain⟨N,D,_,i,_⟩:=h.map;refine⟨(h.items.lt k c).2,aA b h.row.type (by decide),ib i b,fun t e=>⟨aA b (h.fu t e).row.type (by decide),fun j=>aA b ((h.fu t e).dY j).1 (by decide) rfl⟩,fun s l=>h.CF s k l c⟩
theorem BM.item(h:BM G Kq wz W bb a cap rd rn rc mb mx ts d dc f ws){i:Nat}(hi:i<ts.length):∃g,d=some ⟨g,0,none⟩/\W.cell? ⟨g,i,none⟩=some (.pointer (some ⟨(ts[i]).tb,0,none⟩)):=by
 have b:=h.items;rcases b.2 with⟨e,_⟩|⟨g,k,l,e,_⟩
 ·exfalso
  simp only[PO] at e;omega
 ·simp only[PO] at e;obtain⟨rfl,_,rfl⟩:=e;refine⟨g,rfl, ?_⟩;have c:=b.cells (g:=g) rfl i (ts[i]).ptr (by simp[hi]);have j:((⟨g,0,none⟩:Addr).add i)= ⟨g,i,none⟩:=by simp[Addr.add];omega
  rw[j] at c;exact c
theorem BM.sees(j:BM G Kq wz W bb a cap rd rn rc mb mx ts d dc f ws)(p:BS Kq ts ws){i:Nat}(hi:i<ts.length):(GK d (rX ts) i W/\bL (Kk Kq) (Qq (Qj ts)) (ts[i]).r)\/(LB d (rX ts) i W/\¬bL (Kk Kq) (Qq (Qj ts)) (ts[i]).r):=by
 obtain⟨k,l,g⟩:=j.item hi;have q:rX ts i= (ts[i]).tb:=by simp[rX,List.getD,hi]
 have m:=j.fu ts[i] (Pf hi);have b:W.cell? ⟨(ts[i]).tb,1,none⟩=some (.bool (ts[i]).r.over):=m.rng 1 _ rfl;have c:W.cell? ⟨(ts[i]).tb,9,none⟩=some (.int .i64 ((ts[i]).op:Int)):=m.rng 9 _ rfl;have n:=p.can (Pf hi);rw[<-q] at g b c;by_cases e:bL (Kk Kq) (Qq (Qj ts)) (ts[i]).r
 ·obtain⟨s,t⟩:=n.1 e;rw[s] at b;rw[t] at c;exact .inl ⟨⟨k,l,g,b,c⟩,e⟩
 ·refine .inr ⟨⟨k,l,g, ?_⟩,e⟩;cases h:(ts[i]).r.over with
  | true=>left;rw[b,h]
  | false=>
   right
   exact⟨by rw[b,h],(ts[i]).op,fun v=>e (n.2 ⟨h,v⟩),c⟩
end
section
variable {P : Program} {ops : Array Oper} {Q : Exit -> Act -> Qy -> Prop} {md : Region.Mode} {l m : Nat}
theorem Fz{row:String}{args:Array QA}{w:Qy}{R:QA->Qy->Prop}(h:Rows P row args w R):RowsIn (Fence.wide.inRound l) m P row args w R:=fun c a _=>by
 obtain⟨v,b,r,s⟩:=h c a;exact⟨v,b,r,stepsIn_wide.2 s⟩
theorem LA(_hQ:¬LetsOut Q){o:Oper}(f:∀c:Call,o.op≠ .defer c){a:Act}{w:Qy}{K:Act->Qy->Prop}(h:o.wp P a w K Q):o.wpIn (Fence.wide.inRound l) m P a w K Q:=by
 refine⟨fun _ _=>trivial, ?_⟩;have e:o.semAt (Fence.wide.inRound l).round a.eval=execOp a.eval o:=Oper.semAt_eq _ _ _ f;rw[e];unfold Oper.wp at h;generalize (execOp a.eval o).run P w=r at *;cases r with
 | ok x w'=>
  cases x <;> simp only[Oper.upon,Oper.uponIn] at h⊢ <;>
   first
    | exact h
    | exact⟨fun d=>(by cases d),CallsIn.inRound l (callsIn_wide.2 h)⟩
    | exact⟨fun d=>(by cases d),Fz h⟩
 | halt x w'=>cases x <;> simp only[Oper.upon,Oper.uponIn] at h⊢ <;> exact h
theorem nu(d:¬LetsOut Q)(e:∀(i:Nat) (o:Oper),ops[i]? =some o->∀c:Call,o.op≠ .defer c):∀(n:Nat) (up:Array Bool) (a:Act) (w:Qy),wpAny P md ops Q n up a w->wpAnyIn (Fence.wide.inRound l) m P md ops Q n up a w
 | 0,_,_,_,h=>h
 | n+1,up,a,w,h=>by
  refine⟨h.1,fun k g=>?_⟩;have b:=h.2 k g;unfold wpOp at b;unfold wpOpIn;cases f:ops[k]? with
  | none=>
   rw[f] at b;exact nu d e n _ _ _ b
  | some o=>
   rw[f] at b;simp only at b⊢
   split
   ·rename_i hw
    rw[Qg hw] at b;rcases b with b|⟨_,b⟩
    ·exact Oper.wpIn_mono (fun j u p=>nu d e n _ j u p) (LA d (e k o f) b)
    ·exact (d b).elim
   ·rename_i hw
    rw[Qh hw] at b;exact⟨fun _ _=>trivial,nu d e n _ _ _ b⟩
def wL(ops:Array Oper):Bool:=ops.all fun o=>match o.op with | .defer _=>false | _=>true
theorem xU{b:Array Oper}(h:wL b=true)(i:Nat)(o:Oper)(d:b[i]? =some o)(c:Call):o.op≠ .defer c:=by
 intro e;unfold wL at h;rw[Array.all_eq_true] at h;obtain⟨f,rfl⟩:=PK.1 d;have:=h i f;rw[e] at this;cases this
theorem Ce{id:Nat}{a:Act}{w:Qy}(b:P.follows .mixedOrders=true)(c:wL ops=true)(d:¬LetsOut Q)(S:Qy->Prop)(z:Nat)(f:S w.drew)
  (h:S w.drew->Qk P .any ops Q S z ops.size (Array.replicate ops.size false) a w.drew):(Code.region id ops true).wpIn (Fence.wide.inRound l) m P Q a w:=
 wpIn_region_any b (nu d (xU c) _ _ _ _ (Qk.any _ _ _ _ (h f)))
end
