import Derived.Test.YtgnkgfjmbmcfcaaGreatDoorKBRound
import Derived.Test.YtgnkgfjmbmcfcaaGreatDoorKBDo
import Derived.Test.YtgnkgfjmbmcfcaaGreatDoorKVNeeds
import Derived.Test.YtgnkgfjmbmcfcaaGreatDoorKCResO
set_option maxRecDepth 100000
set_option maxHeartbeats 25600000
namespace Go.Proofs.YtgnkgfjmbmcfcaaGreatDoor
open Go.RowKit Go.Proofs.Tryz
section
variable {Kq : List Qz} {wz w w' : Qy} {cb qb mq : Nat} {g : Qw -> Option Int} {R : List n_} {ps : List (Nat × Qw)} {bb : Nat} {a : Qx} {cap : Nat} {rd : Qx} {rn rc mb mx mx' : Nat} {ts ts' : List Zk} {d d' : Qx} {dc dc' : Nat} {f f' : Qw -> QA} {ws ws' : Qw -> List Nat}
theorem bX.did(h:bX Kq wz w cb qb mq g R ps bb a cap rd rn rc mb mx ts d dc f ws)(j:BM (Hz w cb qb R ps) Kq wz w' bb a cap rd rn rc mb mx' ts' d' dc' f' ws'):bX Kq wz w' cb qb mq g R (Nw ts') bb a cap rd rn rc mb mx' ts' d' dc' f' ws':=by
 have e:=j.oth;have k:But (fun x=>¬KB cb qb R x) w w':=⟨j.kw.os.trans h.bm.kw.os.symm,j.kw.tape.trans h.bm.kw.tape.symm,j.kw.output.trans h.bm.kw.output.symm,e.size,fun b _ n=>e.same b (Classical.not_not.1 n)⟩;have i:=h.row.lt;have c:¬¬KB cb qb R cb:=fun x=>x (.inl rfl)
 refine⟨j.as ⟨OU _,fun x m=>OV (KB.lt h m).1 e.size,fun _ _=>rfl,e.nb,e.nm,e.nt,e.nf,fun p q=>?_⟩ j.gi,k.row h.row c,(k.cell i c).trans h.c0,(k.cell i c).trans h.c2,(k.cell i c).trans h.c4,(k.cell i c).trans h.c6,(k.cell i c).trans h.c8,(k.cell i c).trans h.c10,h.iV.but k (fun x=>x (.inr (.inl rfl))),h.low,h.GG,fun r l=>⟨(k.cell i c).trans (h.rows r l).1,k.owns (h.rows r l).2.1 (fun x m s=>s (.inr (.inr ⟨r,l,m⟩))),(h.rows r l).2.2⟩,h.ros,h.rod,h.sep⟩;obtain⟨t,v,rfl⟩:=Pv.1 q;exact⟨t,v,rfl,rfl⟩
theorem bX.more{c:Nat}(h:bX Kq wz w cb qb mq g R ps bb a cap rd rn rc mb mx ts d dc f ws)(e:mq<=c):bX Kq wz w cb qb c g R ps bb a cap rd rn rc mb mx ts d dc f ws:=
 ⟨h.bm,h.row,h.c0,h.c2,h.c4,h.c6,h.c8,h.c10,(by obtain⟨N,D,j,k⟩:=h.iV;exact⟨N,D,OX j e,k⟩),h.low,h.GG,h.rows,h.ros,h.rod,h.sep⟩
end
structure jo where
 Kq:List Qz
 wz:Qy
 wk:Nat
 cb:Nat
 qb:Nat
 bb:Nat
 a:Qx
 cap:Nat
 rd:Qx
 rn:Nat
 rc:Nat
 mb:Nat
structure dm where
 g:Qw->Option Int
 loc:Qw->Nat
 es:Nat->gM
 ea:Qx
 ec:Nat
 oF:Nat->Qw
 on:Nat
 oa:Qx
 oc:Nat
 sF:Nat->Qw
 sn:Nat
 sa:Qx
 sc:Nat
 eF:Nat->gM
 en:Nat
 xa:Qx
 xc:Nat
 fF:Nat->Nat
 fn:Nat
 fa:Qx
 fc:Nat
 ts:List Zk
 d:Qx
 dc:Nat
 f:Qw->QA
 ws:Qw->List Nat
def dm.rows(D:dm)(n:Nat):List n_:=[Oz D.loc D.es n D.ea D.ec,NF 3 D.loc D.oF D.on D.oa D.oc,NF 5 D.loc D.sF D.sn D.sa D.sc,Oo D.loc D.eF D.en D.xa D.xc,rowI D.fF D.fn D.fa D.fc]
def bF(c:jo)(mx mq n:Nat)(D:dm)(w:Qy):Prop:=bX c.Kq c.wz w c.cb c.qb mq D.g (D.rows n) (Nw D.ts) c.bb c.a c.cap c.rd c.rn c.rc c.mb mx D.ts D.d D.dc D.f D.ws
structure ek (c:jo) (mx mq:Nat) (S:aS) (Q:Qw->Prop) (D:dm) (w:Qy):Prop where
 mem:bF c mx mq S.slots.length D w
 bs:BS c.Kq D.ts D.ws
 run:Qj D.ts=S.T
 pl:eH (Kk c.Kq) c.wk S Q D.g D.es D.oF D.on D.sF D.sn D.eF D.en D.fF D.fn
 loc:∀t∈D.ts,D.loc t.r.name=t.tb
 sn:∀s∈S.slots,(Qq S.T s.name).isSome=true
def OkT(W:aZ)(loc:Qw->Nat)(x:Qw)(u:Qy):Prop:=loc x<u.heap.size/\u.cell? ⟨loc x,0,none⟩=some (.string x)/\u.cell? ⟨loc x,7,none⟩=some (.int .i64 (aM W x))
theorem vF(W:aZ)(loc:Qw->Nat):mF 66 (fun x:Qw=>.pointer (some ⟨loc x,0,none⟩)) oQ (OkT W loc):=fun _x _y u a b=>mQ u a.2.1 b.2.1
theorem uZ(W:aZ)(loc:Qw->Nat):mF 65 (fun x:Qw=>.pointer (some ⟨loc x,0,none⟩)) (fun x y=>gI (aM W x) (aM W y) x y) (OkT W loc):=fun _x _y u a b=>zq u a.2.1 b.2.1 a.2.2 b.2.2
theorem uD :mF 68 (fun x:Nat=>.int .i64 (x:Int)) ik (fun _ _=>True):=fun x y u _ _=>Ey u x y
variable {x : Qw}
section
variable {c : jo} {mx mq n : Nat} {S : aS} {Q : Qw -> Prop} {D : dm} {w w' : Qy}
theorem bF.kept(h:bF c mx mq n D w)(k:K_ w w'):bF c mx mq n D w':=bX.kept h k
theorem ek.kept(h:ek c mx mq S Q D w)(k:K_ w w'):ek c mx mq S Q D w':=⟨h.mem.kept k,h.bs,h.run,h.pl,h.loc,h.sn⟩
theorem bF.M_(h:bF c mx mq n D w):aK w c.cb 3 c.wz.heap.size 145 1 (fun x=>[.pointer (some ⟨D.loc x,0,none⟩)]) (.func (.func 65) #[] #[]) D.oF D.on D.oa D.oc:=bX.heap h (i:=1) rfl h.c4 (by omega) (fun _ u b=>by rcases Pd.1 b;rfl) (fun _=>rfl)
theorem bF.MV(h:bF c mx mq n D w):aK w c.cb 5 c.wz.heap.size 145 1 (fun x=>[.pointer (some ⟨D.loc x,0,none⟩)]) (.func (.func 66) #[] #[]) D.sF D.sn D.sa D.sc:=bX.heap h (i:=2) rfl h.c6 (by omega) (fun _ u b=>by rcases Pd.1 b;rfl) (fun _=>rfl)
theorem bF.MW(h:bF c mx mq n D w):aK w c.cb 7 c.wz.heap.size 147 7 (dP D.loc) (.func (.func 67) #[] #[]) D.eF D.en D.xa D.xc:=bX.heap h (i:=3) rfl h.c8 (by omega) (Dz _) (fun _=>rfl)
theorem bF.EL(h:bF c mx mq n D w):aK w c.cb 9 c.wz.heap.size 3 1 (fun x:Nat=>[.int .i64 (x:Int)]) (.func (.func 68) #[] #[]) D.fF D.fn D.fa D.fc:=bX.heap h (i:=4) rfl h.c10 (by omega) (fun _ u b=>by rcases Pd.1 b;rfl) (fun _=>rfl)
theorem bF.OT(h:bF c mx mq n D w){e:Nat->Qw}{a:Nat}{b:Qx}{d:Nat}{f:QA}(g:aK w' c.cb 3 c.wz.heap.size 145 1 (fun x=>[.pointer (some ⟨D.loc x,0,none⟩)]) f e a b d)(j:ToH w w' c.cb 3 D.oa D.on D.oc b a d):bF c mx mq n {D with oF:=e,on:=a,oa:=b,oc:=d} w':=bX.qj h (i:=1) rfl g j
theorem bF.OL(h:bF c mx mq n D w){e:Nat->Qw}{a:Nat}{b:Qx}{d:Nat}{f:QA}(g:aK w' c.cb 5 c.wz.heap.size 145 1 (fun x=>[.pointer (some ⟨D.loc x,0,none⟩)]) f e a b d)(j:ToH w w' c.cb 5 D.sa D.sn D.sc b a d):bF c mx mq n {D with sF:=e,sn:=a,sa:=b,sc:=d} w':=bX.qj h (i:=2) rfl g j
theorem bF.OG(h:bF c mx mq n D w){b:Nat->gM}{a:Nat}{xa:Qx}{xc:Nat}{e:QA}(f:aK w' c.cb 7 c.wz.heap.size 147 7 (dP D.loc) e b a xa xc)(g:ToH w w' c.cb 7 D.xa D.en D.xc xa a xc):bF c mx mq n {D with eF:=b,en:=a,xa:=xa,xc:=xc} w':=bX.qj h (i:=3) rfl f g
theorem bF.Me(h:bF c mx mq n D w){e:Nat->Nat}{a:Nat}{b:Qx}{d:Nat}{f:QA}(g:aK w' c.cb 9 c.wz.heap.size 3 1 (fun x:Nat=>[.int .i64 (x:Int)]) f e a b d)(j:ToH w w' c.cb 9 D.fa D.fn D.fc b a d):bF c mx mq n {D with fF:=e,fn:=a,fa:=b,fc:=d} w':=bX.qj h (i:=4) rfl g j
theorem bF.Np(h:bF c mx mq n D w){a:Nat}{g:Qw->Option Int}(k:But (fun x=>x=c.qb) w w')(d:gK w' c.qb a g):bF c mx a n {D with g:=g} w':=bX.Mc h k d
theorem ek.fu(h:ek c mx mq S Q D w){r:Q_}(b:Qq S.T x=some r):∃(i:Nat) (t:Zk),D.ts[i]? =some t/\t.r=r/\r.name=x/\D.loc x=t.tb:=by
 rw[<-h.run] at b;obtain⟨f,d⟩:=bN b;obtain⟨t,e,rfl⟩:=Pv.1 f;obtain⟨i,g⟩:=List.getElem?_of_mem e;exact⟨i,t,g,rfl,d,by rw[<-d];exact h.loc t e⟩
theorem ek.okT(h:ek c mx mq S Q D w){P:Nat->Prop}{u:Qy}(k:But P w u)(e:∀x,P x->KB c.cb c.qb (D.rows S.slots.length) x)(f:(Qq S.T x).isSome=true):OkT (Kk c.Kq) D.loc x u:=by
 obtain⟨r,g⟩:=Ps.1 f;obtain⟨q,t,i,rfl,rfl,j⟩:=h.fu g;have a:t∈D.ts:=Pj i;obtain⟨b,l,m,_⟩:=BM.uN h.mem.bm a;have d:¬P t.tb:=fun n=>(h.mem.bm.oth.nt t a).1 (e _ n)
 have p:aM (Kk c.Kq) t.r.name=t.cost:=by
  unfold aM;rw[(h.mem.bm.act t a).1]
 rw[OkT,j,p];exact⟨OV b k.size,(k.cell b d).trans l,(k.cell b d).trans m⟩
theorem ek.okE(h:ek c mx mq S Q D w){P:Nat->Prop}{u:Qy}(k:But P w u)(b:∀x,P x->KB c.cb c.qb (D.rows S.slots.length) x){x:gM}(d:(Qq S.T x.name).isSome=true):OkE D.loc x u:=let h1:=h.okT k b d;⟨h1.1,h1.2.1⟩
theorem om{a b:Nat}{R:List n_}{i:Nat}{r:n_}(h:R[i]? =some r){v:QA}(c:r.v=v):∀x,(x=a\/v.ownBlock=some x)->KB a b R x:=fun x d=>by
 rcases d with e|e
 ·exact .inl e
 ·exact .inr (.inr ⟨r,Pj h,by rw[c];exact e⟩)
theorem Rdy.some{W:aZ}{S:aS}(h:bD W (Qq S.T) x):(Qq S.T x).isSome=true:=by
 obtain⟨r,b,_⟩:=h;rw[b]
 rfl
theorem ek.Md(h:ek c mx mq S Q D w)(b:g_ D.oF D.on x):(Qq S.T x).isSome=true:=Rdy.some (h.pl.q x ((h.pl.off.mem x).1 b).1)
theorem ek.L_(h:ek c mx mq S Q D w)(b:g_ D.sF D.sn x):(Qq S.T x).isSome=true:=Rdy.some (h.pl.q x ((h.pl.spt.mem x).1 b).1)
theorem BzE.name{W:aZ}{wk:Nat}{S:aS}(b:jm W wk S){e:gM}(h:BzE W S e):Bz S e.name:=by
 obtain⟨k,x,a,rfl⟩:=h;obtain⟨t,c,e⟩:=b.eff a;exact⟨k,x,a,by rw[e]⟩
theorem ek.Nq(h:ek c mx mq S Q D w){x:gM}(b:g_ D.eF D.en x):(Qq S.T x.name).isSome=true:=Rdy.some (h.pl.q _ (h.pl.bq _ (BzE.name h.pl.bP ((h.pl.ends.mem x).1 b))).1)
theorem wh{α:Type}{f:Nat->α}{n:Nat}{l:List α}(hi:vN f n)(d:∀i,i<n->f i∈l):n<=l.length:=by
 have a:=List.Nodup.length_le_of_subset (l₁:=(List.range n).map f) (l₂:=l) (by
  rw[List.Nodup,List.pairwise_map,Pg];intro i j a b h e;simp only[List.getElem_range] at e;rw[List.length_range] at a b;exact Qi (hi i j a b e) (by omega)) (fun x g=>by
  obtain⟨i,a,rfl⟩:=Pv.1 g;exact d i (List.mem_range.1 a))
 simpa using a
theorem ek.names(h:ek c mx mq S Q D w)(b:(Qq S.T x).isSome=true):x∈jZ D.ts:=by
 obtain⟨r,d⟩:=Ps.1 b;obtain⟨i,t,f,rfl,rfl,_⟩:=h.fu d;exact Pv.2 ⟨t,Pj f,rfl⟩
theorem ek.lens(h:ek c mx mq S Q D w)(b:c.Kq.length<=60):D.ts.length<=60/\D.on<=60/\D.sn<=60/\D.en<=c.wk/\D.fn<=c.wk:=by
 have j:=h.mem.bm.len b;have k:(jZ D.ts).length=D.ts.length:=by simp[jZ]
 have m:=wh h.pl.off.inj (l:=jZ D.ts) (fun i a=>h.names (h.Md ⟨i,a,rfl⟩));have n:=wh h.pl.spt.inj (l:=jZ D.ts) (fun i a=>h.names (h.L_ ⟨i,a,rfl⟩));have p:=h.pl.bP.len;have d:=wh h.pl.ends.inj (l:=S.busy.map fun o=>match o with | some x=>iR (Kk c.Kq) S.slots S.back x.slot | none=>⟨0,0,ByteArray.empty,0,0,0⟩) (fun i a=>by
  obtain⟨q,x,f,e⟩:=(h.pl.ends.mem _).1 ⟨i,a,rfl⟩;exact Pv.2 ⟨some x,Pj f,e.symm⟩)
 have g:=wh h.pl.free.inj (l:=List.range S.busy.length) (fun i a=>by
  have:=(h.pl.free.mem _).1 ⟨i,a,rfl⟩;exact List.mem_range.2 (O_.1 this).1)
 simp only[Qc,List.length_range] at d g;omega
end
open Go.RowKit Go.Shelf
attribute [local go_sem] Oper.semAt_some
variable {w : Qy}
section
variable {P : Program} {ops : Array Oper} {Q : Exit -> Act -> Qy -> Prop} {l m : Nat}
theorem qV{id:Nat}{a:Act}(b:P.follows .mixedOrders=true)(c:wL ops=true)(d:¬LetsOut Q)(S:Qy->Prop)(Z:List Nat)(f:S w.drew)
 (h:S w.drew->UpZ P .any ops Q S Z ops.size (Array.replicate ops.size false) a w.drew):(Code.region id ops true).wpIn (Fence.wide.inRound l) m P Q a w:=
 wpIn_region_any b (nu d (xU c) _ _ _ _ (UpZ.any _ _ _ _ (h f)))
end
theorem But.keeps{P:Nat->Prop}{w':Qy}(k:But P w w'){B:Nat}(c:∀b,P b->b<B\/∃t,bZ w b t):KeepsFrom B w w':=⟨k.size,fun b o f a d=>by
 by_cases e:P b
 ·rcases c b e with h|⟨t,h⟩
  ·omega
  ·have:=lH h a;rw[d] at this;cases this
 ·exact (k.block b (aV a) e).trans a⟩
section
variable {Kq : List Qz} {wz w w' : Qy} {cb qb mq : Nat} {g : Qw -> Option Int} {R : List n_} {ps : List (Nat × Qw)} {bb : Nat} {a : Qx} {cap : Nat} {rd : Qx} {rn rc mb mx : Nat} {ts : List Zk} {d : Qx} {dc : Nat} {f : Qw -> QA} {ws : Qw -> List Nat}
theorem KB.type(h:bX Kq wz w cb qb mq g R ps bb a cap rd rn rc mb mx ts d dc f ws){x:Nat}(b:KB cb qb R x):x=qb\/∃t,bZ w x t:=by
 rcases b with rfl|rfl|⟨r,c,e⟩
 ·exact .inr ⟨_,h.row.type⟩
 ·exact .inl rfl
 ·exact .inr ⟨_,Y_ (h.rows r c).2.1 e⟩
theorem bX.calm(h:bX Kq wz w cb qb mq g R ps bb a cap rd rn rc mb mx ts d dc f ws){l:Nat}{o:Obj}(q:Obj)(z:wz.heap.size<=l)(D:qb<l)(E:mb<l)(A:w.heap[l]? =some o)(B:o.isCells=false):bX Kq wz (w.putObj l q) cb qb mq g R ps bb a cap rd rn rc mb mx ts d dc f ws:=by
 have k:But (fun b=>b=l) w (w.putObj l q):=⟨rfl,rfl,rfl,by rw[World.putObj_size];exact OU _,fun b _ e=>World.putObj_heap_other e⟩;have y:∀b,b=l->∀t,¬bZ w b t:=fun b e t s=>by
  have:=lH s (by rw[e];exact A);rw[B] at this;cases this
 have m:=h.bm.block (S:=fun b=>b=l) (fun (e:mb=l)=>by omega) y;have v:∀x,KB cb qb R x->¬x=l:=fun x n e=>by
  rcases KB.type h n with F|⟨t,s⟩
  ·omega
  ·exact y x e t s
 have i:=h.row.lt;have c:=v cb (.inl rfl);have C:=h.bm.no.but k (fun b e=>by rw[e];exact z) m.1 m.2.1 m.2.2.1 m.2.2.2.1 m.2.2.2.2 (fun _ _=>id);have j:=h.bm.oth;exact⟨C.as ⟨OU _,fun x n=>by show x<(w.putObj l q).heap.size;rw[World.putObj_size];exact j.lt x n,fun _ _=>rfl,j.nb,j.nm,j.nt,j.nf,j.has⟩ h.bm.gi,k.row h.row c,(k.cell i c).trans h.c0,(k.cell i c).trans h.c2,(k.cell i c).trans h.c4,(k.cell i c).trans h.c6,(k.cell i c).trans h.c8,(k.cell i c).trans h.c10,h.iV.but k (v _ (.inr (.inl rfl))),h.low,h.GG,fun r p=>⟨(k.cell i c).trans (h.rows r p).1,k.owns (h.rows r p).2.1 (fun x n=>v x (.inr (.inr ⟨r,p,n⟩))),(h.rows r p).2.2⟩,h.ros,h.rod,h.sep⟩
end
variable {Q : Qw -> Prop} {c : jo} {mq mx : Nat} {S : aS}
theorem ek.calm{D:dm}(h:ek c mx mq S Q D w){l:Nat}{o:Obj}(a:Obj)(b:c.wz.heap.size<=l)(d:c.qb<l)(e:c.mb<l)(f:w.heap[l]? =some o)(g:o.isCells=false):ek c mx mq S Q D (w.putObj l a):=⟨bX.calm h.mem a b d e f g,h.bs,h.run,h.pl,h.loc,h.sn⟩
def QAt(W:aZ)(S:aS)(Q:Qw->Prop)(ns:List Qw)(i:Nat)(n:Qw):Prop:=Q n\/(Rdy W S n/\n∈ns.take i)
variable {i : Nat}
theorem Er{W:aZ}{c:List Qw}(hi:i<c.length)(h:QAt W S Q c i c[i]\/¬Rdy W S c[i])(n:Qw):QAt W S Q c i n↔QAt W S Q c (i+1) n:=by
 unfold QAt;rw[Pb hi];constructor
 ·rintro (a|⟨a,b⟩)
  ·exact .inl a
  ·exact .inr ⟨a,Pe.2 (.inl b)⟩
 ·rintro (a|⟨a,b⟩)
  ·exact .inl a
  ·rcases Pe.1 b with b|b
   ·exact .inr ⟨a,b⟩
   ·rw[Pd.1 b] at a⊢;rcases h with h|h
    ·exact h
    ·exact Qi a h
theorem Dj{W:aZ}{c:List Qw}(hi:i<c.length)(h:Rdy W S c[i])(n:Qw):(n=c[i]\/QAt W S Q c i n)↔QAt W S Q c (i+1) n:=by
 unfold QAt;rw[Pb hi];constructor
 ·rintro (rfl|a|⟨a,b⟩)
  ·exact .inr ⟨h,Pe.2 (.inr (Pd.2 rfl))⟩
  ·exact .inl a
  ·exact .inr ⟨a,Pe.2 (.inl b)⟩
 ·rintro (a|⟨a,b⟩)
  ·exact .inr (.inl a)
  ·rcases Pe.1 b with b|b
   ·exact .inr (.inr ⟨a,b⟩)
   ·exact .inl (Pd.1 b)
theorem But.type{P:Nat->Prop}{w':Qy}(k:But P w w'){b:Nat}{t:TypeId}(a:bZ w b t)(c:¬P b):bZ w' b t:=let ⟨cur,fr,e⟩:=a;⟨cur,fr,(k.block b (aV e) c).trans e⟩
def qN(cb bx:Nat)(j:Int)(W:Qy):Prop:=W.cell? ⟨bx,0,none⟩=some (.pointer (some ⟨cb,0,none⟩))/\bZ W bx 67/\W.cell? ⟨bx+1,0,none⟩=some (.int .i64 j)/\bZ W (bx+1) 3/\bx+1<W.heap.size
variable {j : Int} {bx : Nat}
theorem qN.but{P:Nat->Prop}{b:Nat}{W c:Qy}(h:qN b bx j W)(k:But P W c)(d:¬P bx)(e:¬P (bx+1)):qN b bx j c:=
 ⟨(k.cell (by have:=h.2.2.2.2;omega) d).trans h.1,k.type h.2.1 d,(k.cell h.2.2.2.2 e).trans h.2.2.1,k.type h.2.2.2.1 e,OV h.2.2.2.2 k.size⟩
theorem qN.kept{a:Nat}{W b:Qy}(h:qN a bx j W)(k:K_ W b):qN a bx j b:=h.but (P:=fun _=>False) (.aj k) id id
def Cw(c:jo)(mx mq:Nat)(S:aS)(Q:Qw->Prop)(D0:dm)(bx:Nat)(j:Int)(i:Nat)(W:Qy):Prop:=
 ∃D,ek c mx (mq+i) S (QAt (Kk c.Kq) S Q (jZ D0.ts) i) D W/\(D.ts=D0.ts/\D.d=D0.d/\D.dc=D0.dc/\D.en=D0.en)/\qN c.cb bx j W
theorem Cw.calm{h:dm}{B:Nat}(p:c.wz.heap.size<=B)(q:c.qb<B)(r:c.mb<B)(s:bx+1<B):Calm B (Cw c mx mq S Q h bx j i):=by
 constructor
 ·rintro W o t ⟨D,a,d,e⟩;exact⟨D,a.kept ((K_.refl W).alloc o),d,e.kept ((K_.refl W).alloc o)⟩
 ·rintro W l o g v m n ⟨D,a,d,e⟩;have k:But (fun b=>b=l) W (W.putObj l g):=⟨rfl,rfl,rfl,by rw[World.putObj_size];exact OU _,fun b _ f=>World.putObj_heap_other f⟩;exact⟨D,a.calm g (by omega) (by omega) (by omega) m n,d,e.but k (fun f=>by omega) (fun f=>by omega)⟩
theorem Cw.sees{a:dm}{W:Qy}(q:Cw c mx mq S Q a bx j i W)(hi:i<(jZ a.ts).length):
  (GK a.d (rX a.ts) i W/\Rdy (Kk c.Kq) S (jZ a.ts)[i])\/(LB a.d (rX a.ts) i W/\¬Rdy (Kk c.Kq) S (jZ a.ts)[i]):=by
 obtain⟨⟨v,w,x,y,z,A,B,C,D,E,F,G,H,I,J,K,L,M,N,O,P,ts,d,R,U,V⟩,b,⟨g,h,k,_⟩,_⟩:=q;dsimp only at g h k;subst g h k;have l:i<a.ts.length:=by simpa[jZ] using hi
 have r:(jZ a.ts)[i]=a.ts[i].r.name:=by simp[jZ]
 have m:Qq S.T (a.ts[i]).r.name=some (a.ts[i]).r:=by
  rw[<-b.run];exact bU b.mem.bm.asc (PV (Pf l))
 have n:=b.mem.bm.sees b.bs l;rw[r];have s:Qj a.ts=S.T:=b.run;simp only[s] at n;rcases n with⟨e,f⟩|⟨e,f⟩
 ·exact .inl ⟨e,_,m,f⟩
 ·refine .inr ⟨e,fun ⟨X,p,t⟩=>f ?_⟩;rw[m] at p;cases p;exact t
theorem Cw.fu{a:dm}{W:Qy}(h:Cw c mx mq S Q a bx j i W)(hi:i<(jZ a.ts).length):
  ∃(D:dm) (t:Zk),ek c mx (mq+i) S (QAt (Kk c.Kq) S Q (jZ a.ts) i) D W/\(D.ts=a.ts/\D.d=a.d/\D.dc=a.dc/\D.en=a.en)/\qN c.cb bx j W/\t∈D.ts/\t.tb=rX a.ts i/\t.r.name= (jZ a.ts)[i]/\D.loc t.r.name=t.tb/\Qq S.T t.r.name=some t.r:=by
 obtain⟨D,b,⟨f,k,l,m⟩,n⟩:=h;have g:i<a.ts.length:=by simpa[jZ] using hi
 have e:a.ts[i]∈D.ts:=by rw[f];exact Pf g
 exact⟨D,a.ts[i],b,⟨f,k,l,m⟩,n,e,by simp[rX,List.getD,g],by simp[jZ],b.loc _ e,by rw[<-b.run];exact bU b.mem.bm.asc (PV e)⟩
theorem Ah{D:dm}(h:ek c mx mq S Q D w)(hw:c.Kq.length<=60)(f7:a_ (Kk c.Kq))(hj:∀n,Rdy (Kk c.Kq) S n->¬Q n->S.cause n=j)(h6:mq<=900000):
  Calls prog 70 #[.pointer (some ⟨c.cb,0,none⟩),.int .i64 j] w fun e w'=>e= .returned (.tuple #[])/\∃D',ek c mx (mq+60) S (Rdy (Kk c.Kq) S) D' w'/\D'.ts=D.ts/\D'.en=D.en:=by
 obtain⟨g,a0⟩:=ag c.cb;obtain⟨R,a1⟩:=ag c.bb;have d9:w.cell? ⟨g,0,none⟩=some (.pointer (some ⟨R,0,none⟩)):=by rw[a0,a1];exact h.mem.c0
 have f8:g<w.heap.size:=by rw[a0];exact h.mem.row.lt
 have h7:R<w.heap.size:=by rw[a1];exact h.mem.bm.row.lt
 have h8:c.qb<w.heap.size:=h.mem.iV.lt;have h9:c.mb<w.heap.size:=by obtain⟨i0,D,_,A,_⟩:=h.mem.bm.map;exact A.lt
 have i1:c.wz.heap.size<=w.heap.size:=h.mem.bm.kw.size;have f9:=(h.lens hw).1;obtain⟨t,a2⟩:∃t,(w.alloc (.cells #[.pointer (some ⟨g,0,none⟩)] 67)).alloc (.cells #[.int .i64 j] 3)=t:=⟨_,rfl⟩;have K0:K_ w t:=by rw[<-a2];exact (ak _ _).alloc _
 have z0:t.heap.size=w.heap.size+1+1:=by rw[<-a2];simp
 obtain⟨q0,_,q1⟩:=Es (w:=w) (v:= .pointer (some ⟨g,0,none⟩)) (t:=67) (w1:=t) (by rw[<-a2];exact ak _ _);have e0:=Es (w:=w.alloc (.cells #[.pointer (some ⟨g,0,none⟩)] 67)) (v:= .int .i64 j) (t:=3) (w1:=t) (by rw[<-a2];exact K_.refl _);simp only[PL] at e0;obtain⟨q2,_,q3⟩:=e0;have g0:=(K0.cell (o:=0) f8).trans d9;have b9:t.cell? ⟨R,3,none⟩=some (.slice D.d D.ts.length D.dc):=by rw[a1];exact (h.mem.kept K0).bm.c3
 have h0:Cw c mx mq S Q D w.heap.size j 0 t:=⟨D,⟨(h.kept K0).mem,h.bs,h.run,h.pl.congr (fun n=>by unfold QAt;simp),h.loc,h.sn⟩,⟨rfl,rfl,rfl,rfl⟩,by rw[<-a0];exact q0,q1,q2,q3,by omega⟩;obtain⟨dd,a7⟩:=ag D.d;obtain⟨dn,a8⟩:=ag D.ts.length;obtain⟨g1,c0⟩:=ag D.dc;have g2:∀a3,dd=some ⟨a3,0,none⟩->a3<w.heap.size:=fun a3 e=>by rw[a7] at e;exact (h.mem.bm.apart e).1
 rw[<-a7,<-a8,<-c0] at b9;rw[<-a8] at f9;have⟨H0,G,i2,g3,e1⟩:=dX h0 a0 a1 a7 a8;have⟨i3,y,i4,g4⟩:=oZ c0 z0 h.bs hj;clear h h0 a0 a1 a7 a8 c0 z0 hj;refine (callsIn_wide (n:=9)).1 ?_;rw[<-G.o];refine callsIn_of_wp_marks func70 rfl trivial ?_ rfl;simp only[ntmps70,List.size_toArray,PP,List.length_nil,Nat.reduceAdd,Nat.reduceSub,Array.replicate_succ,Array.replicate_zero,List.push_toArray,List.append_toArray,List.nil_append,List.cons_append]
 gi_wp2
 clear a2;refine xM (vw R dd dn g1 (rX D.ts) (by omega)) rfl (enters_of func117 (by kernel_rfl) rfl) (GY (by rw[y.o];omega)) b9 (fun _=>rfl)
  (Cw c mx mq S Q D w.heap.size j) (fun _ _=>False) (fun l=>Cw.calm (by rw[y.o];omega) (by rw[y.o];omega) (by rw[y.o];omega) (by rw[y.o];omega)) (fun _=>xJ _) H0.o
  (fun l=>{tmps:= #[.pointer (some ⟨g,0,none⟩),.int .i64 j,.pointer (some ⟨w.heap.size,0,none⟩),.pointer (some ⟨w.heap.size+1,0,none⟩),.pointer (some ⟨rX D.ts l,0,none⟩),undef,undef,.pointer (some ⟨g,0,none⟩),.pointer (some ⟨g,0,none⟩),.pointer (some ⟨g,0,none⟩),.pointer (some ⟨R,0,none⟩),.func (.func 117) #[.pointer (some ⟨R,0,none⟩)] #[],.pointer (some ⟨rX D.ts l,0,none⟩),undef,undef,undef,undef,undef,undef,undef,undef,undef,undef,undef,undef,undef,undef,undef,undef,undef,undef,undef,undef,undef,undef,undef,undef,undef,undef,undef,undef,undef,undef,undef,undef,undef,undef,undef,undef],defers:=[]})
  ?assign (fun l=>Aq (fun a3 e=>by have:=g2 a3 e;rw[y.o];omega)) ?step ?done ?stop
 case assign=>
  intro a9 l W e2 hK
  gi_wp2
  exact hK
 case stop=>
  intro D c W _ h _;exact h.elim
 case done=>
  rintro De W hD ⟨i,f,B,_⟩ e3;have k:=Kz (f.calm (.deferred none) (by rw[y.o] at hD;omega) (by rw[y.o] at hD;omega) (by rw[y.o] at hD;omega) e3 rfl);have K:=Kz B;clear f B
  gi_wp2
  refine⟨by simp,.inl ⟨_,_,rfl,run_takeDeferred e3, ?_⟩⟩;refine⟨_,results_none rfl _ _ _,rfl,i,⟨bX.more k.o.mem (by omega),k.o.bs,k.o.run,k.o.pl.congr (fun n=>⟨fun s=>k.o.pl.q n s,fun L=>.inr ⟨L, ?_⟩⟩),k.o.loc,k.o.sn⟩,K.o.1,K.o.2.2.2⟩;rw[PG (by rw[jZ,Qc,e1.o];exact OU _),<-K.o.1];exact k.o.names (Rdy.some L)
 case step=>
  intro l W g5 U;have V:l<(jZ D.ts).length:=by rw[jZ,Qc,<-e1.o];exact g5
  rw[g3.o];rcases U.sees V with⟨hv,L⟩|⟨hn,L⟩;rotate_left
  ·obtain⟨i,f,B,H⟩:=U;exact .inr ⟨hn,i,⟨bX.more f.mem (by omega),f.bs,f.run,f.pl.congr (Er V (.inr L)),f.loc,f.sn⟩,B,H⟩
  refine .inl ⟨hv, ?_⟩;clear hv U W;intro a9 W _ U hz;obtain⟨i,a4,f,B,H,ht,c1,c4,b0,c5⟩:=U.fu V;obtain⟨M,c6⟩:=ag (rX D.ts l);obtain⟨b,b1⟩:=ag a4.r.name;obtain⟨b2,b3,_,c7⟩:=BM.uN f.mem.bm ht;have c8:bZ W a4.tb 153:=(f.mem.bm.fu a4 ht).row.type;rw[c1,<-c6] at b2 b3 c7 b0 c8;rw[<-b1] at b3 c4 b0 c5;rw[<-c6];have i5:c.cb<W.heap.size:=f.mem.row.lt;have c9:b.size<=maxLen:=by
   have hA:=(f.mem.bm.act a4 ht).1;have:=(f7 _ _ hA).2.2.1;rw[b1];unfold maxLen;omega
  have b4:Hid (∀u,K_ W u->u.cell? ⟨w.heap.size,0,none⟩=some (.pointer (some ⟨g,0,none⟩))/\u.cell? ⟨g,2,none⟩=some (.map (some c.qb))/\u.cell? ⟨M,0,none⟩=some (.string b)/\(Instr.lookup 130 (.map (some c.qb)) (.string b) true).run prog u= .ok (.tuple #[.int .i64 (Option.getD (i.g b) 0),.bool (Option.isSome (i.g b))]) u/\u.cell? ⟨w.heap.size+1,0,none⟩=some (.int .i64 j)):=fun u p=>⟨by rw[G.o];exact (H.kept p).1,by rw[G.o];exact (f.kept p).mem.c2,(p.cell b2).trans b3,(f.kept p).mem.iV.OO c9,(H.kept p).2.2.1⟩
  have g6:(QAt (Kk c.Kq) S Q (jZ D.ts) l b/\i.g b=some (S.cause b))\/(¬QAt (Kk c.Kq) S Q (jZ D.ts) l b/\i.g b=none):=by
   by_cases s:QAt (Kk c.Kq) S Q (jZ D.ts) l b
   ·exact .inl ⟨s,f.pl.gy b s⟩
   ·exact .inr ⟨s,f.pl.gn b s⟩
  have⟨k,K,b5,HT,i6⟩:=dX f B H ht c1;have⟨i7,X,e4,b6,HR⟩:=dX b1 c4 b0 c5 L;have⟨g7,g8,e5,e6⟩:=oZ c8 c9 c7 b2;obtain⟨b7,d0⟩:=ag a4.r.Zq;rw[<-d0] at e5;have e7:=Kz d0;have hD:∃d z,i.g b=d/\(d.getD 0)= (d.getD 0)/\z=d.isSome:=⟨_,_,rfl,rfl,rfl⟩;clear f B H ht c1 b1 c4 b0 c5 L c8 c9 b2 b3 c7 U q0 q1 q2 q3 g0 b9 d9 d0 hD c6;rcases g6 with⟨s,a5⟩|⟨s,a5⟩
  ·have HQ:=Kz s;have b8:Hid (∀u,K_ W u->u.cell? ⟨w.heap.size,0,none⟩=some (.pointer (some ⟨g,0,none⟩))/\u.cell? ⟨g,2,none⟩=some (.map (some c.qb))/\u.cell? ⟨M,0,none⟩=some (.string b)/\(Instr.lookup 130 (.map (some c.qb)) (.string b) true).run prog u= .ok (.tuple #[.int .i64 (S.cause b),.bool (true)]) u/\u.cell? ⟨w.heap.size+1,0,none⟩=some (.int .i64 j)):=fun u p=>by
    have h:=b4.o u p;rw[a5] at h;exact h
   clear s a5 b4
   gi_wp2
   refine qV (by kernel_rfl) (by kernel_rfl) (fun ⟨_,_,h⟩=>h) (fun u=>u.cell? ⟨w.heap.size,0,none⟩=some (.pointer (some ⟨g,0,none⟩))/\u.cell? ⟨g,2,none⟩=some (.map (some c.qb))/\u.cell? ⟨M,0,none⟩=some (.string b)/\(Instr.lookup 130 (.map (some c.qb)) (.string b) true).run prog u= .ok (.tuple #[.int .i64 (S.cause b),.bool (true)]) u/\u.cell? ⟨w.heap.size+1,0,none⟩=some (.int .i64 j)) [] (b8.o _ (bB W)) (fun a=>?_);have C:K_ W W.drew:=bB W;generalize d1:W.drew=wd at a C⊢;clear d1;refine UpZ.tk 0 a ?_;refine UpZ.tk 1 a ?_;refine UpZ.tk 2 a ?_;refine UpZ.tk 3 a ?_;refine UpZ.tk 4 a ?_;refine UpZ.tk 5 a ?_;refine UpZ.tk 6 a ?_;refine UpZ.tk 7 a ?_;refine UpZ.tk 8 a ?_;refine UpZ.tk 9 a ?_;refine UpZ.tk 10 a ?_;refine UpZ.tk 11 a ?_;refine UpZ.tk 12 a ?_;refine UpZ.tk 13 a ?_;refine UpZ.tk 14 a ?_;refine UpZ.dn ?_
   gi_wp2
   exact⟨qX C _,i,⟨bX.more (k.o.kept C).mem (by omega),k.o.bs,k.o.run,k.o.pl.congr (Er V (.inl (by rw[<-X.o];exact HQ.o))),k.o.loc,k.o.sn⟩,K.o,b5.o.kept C⟩
  ·have HQ:=Kz s;have b8:Hid (∀u,K_ W u->u.cell? ⟨w.heap.size,0,none⟩=some (.pointer (some ⟨g,0,none⟩))/\u.cell? ⟨g,2,none⟩=some (.map (some c.qb))/\u.cell? ⟨M,0,none⟩=some (.string b)/\(Instr.lookup 130 (.map (some c.qb)) (.string b) true).run prog u= .ok (.tuple #[.int .i64 (0),.bool (false)]) u/\u.cell? ⟨w.heap.size+1,0,none⟩=some (.int .i64 j)):=fun u p=>by
    have h:=b4.o u p;rw[a5] at h;exact h
   clear s a5 b4
   gi_wp2
   refine qV (by kernel_rfl) (by kernel_rfl) (fun ⟨_,_,h⟩=>h) (fun u=>u.cell? ⟨w.heap.size,0,none⟩=some (.pointer (some ⟨g,0,none⟩))/\u.cell? ⟨g,2,none⟩=some (.map (some c.qb))/\u.cell? ⟨M,0,none⟩=some (.string b)/\(Instr.lookup 130 (.map (some c.qb)) (.string b) true).run prog u= .ok (.tuple #[.int .i64 (0),.bool (false)]) u/\u.cell? ⟨w.heap.size+1,0,none⟩=some (.int .i64 j)) [] (b8.o _ (bB W)) (fun a=>?_);have C:K_ W W.drew:=bB W;generalize d1:W.drew=wd at a C⊢;clear d1;refine UpZ.tk 0 a ?_;refine UpZ.tk 1 a ?_;refine UpZ.tk 2 a ?_;refine UpZ.tk 3 a ?_;refine UpZ.tk 4 a ?_;refine UpZ.tk 5 a ?_;refine UpZ.tk 6 a ?_;refine UpZ.tk 7 a ?_;refine UpZ.tk 8 a ?_;refine UpZ.tk 9 a ?_;refine UpZ.tk 10 a ?_;refine UpZ.tk 11 a ?_;refine UpZ.tk 12 a ?_;refine UpZ.tk 13 a ?_;refine UpZ.tk 14 a ?_;refine UpZ.dn ?_
   gi_wp2
   refine Ce (by kernel_rfl) (by kernel_rfl) (fun ⟨_,_,h⟩=>h) (fun u=>u.cell? ⟨w.heap.size,0,none⟩=some (.pointer (some ⟨g,0,none⟩))/\u.cell? ⟨g,2,none⟩=some (.map (some c.qb))/\u.cell? ⟨M,0,none⟩=some (.string b)/\(Instr.lookup 130 (.map (some c.qb)) (.string b) true).run prog u= .ok (.tuple #[.int .i64 (0),.bool (false)]) u/\u.cell? ⟨w.heap.size+1,0,none⟩=some (.int .i64 j)) 10 (b8.o _ C.drew) (fun a=>?_);have I:K_ W wd.drew:=C.drew;generalize g9:wd.drew=we at a I⊢;clear g9 C;refine af 0 a ?_;refine af 4 a ?_;refine ae 8 a ?_;refine ae 9 a ?_;obtain⟨J,h1,e8,k5⟩:=(k.o.kept I).mem.iV.put g8.o j (by omega);have⟨h2,Y⟩:=aD e8 k5;clear e8 k5;refine ay 10 (fun e2 hK=>?_);go_simp
   refine hK.out _ _ (fun h=>Qi rfl h) ?_;clear hK e2;try simp only[Act.put,upA,upB,upC]
   refine az ?_;clear h1 a;have m:=Kz (k.o.kept I);have e9:J.cell? ⟨M,5,none⟩=some (.int .i64 b7):=(Y.o.cell (by have:=I.size;have:=e6.o;omega) (k.o.mem.iV.ne g7.o)).trans ((I.cell e6.o).trans e5.o);have v:=Kz ((b5.o.kept I).but Y.o (k.o.mem.iV.ne b5.o.2.1) (k.o.mem.iV.ne b5.o.2.2.2.1));have f0:J.cell? ⟨w.heap.size,0,none⟩=some (.pointer (some ⟨g,0,none⟩)):=by rw[G.o];exact v.o.1
   have r:Hid (bF c mx (mq+l+1) S.slots.length {i with g:=Bp i.g b j} J):=m.o.mem.Np Y.o h2.o;have f1:c.wz.heap.size<=J.heap.size:=r.o.bm.kw.size;have f2:S.cause b=j:=g4.o b (by rw[X.o];exact HR.o) (fun h=>HQ.o (.inl h));have f3:=Kz f2;have i8:=m.o.lens hw;have f4:Hid (KeepsFrom t.heap.size W J):=(qX I _).trans (Y.o.keeps (fun z e=>.inl (by rw[e,y.o];omega)));have f5:Hid ((Qq S.T b).isSome=true):=by show _=_;rw[b6.o];rfl
   clear f2 I
   gi_wp2_with fail
   refine⟨trivial,(CallsIn.inRound a9 (callsIn_wide.2 (Gv J e9))).mono ?_⟩;rintro e h3 ⟨rfl,f6⟩;rw[f6];clear f6 h3 e9;by_cases Z:b7=20
   ·have d2:(b7 == 20)=true:=by simpa using Z
    have d3:Hid (Sp (Kk c.Kq) S b):=by
     obtain⟨h4,f,B⟩:Rdy (Kk c.Kq) S b:=by rw[X.o];exact HR.o
     rw[b6.o] at f;cases f;exact⟨_,b6.o,B,by rw[<-e7.o];exact Z⟩
    clear Z;rw[d2]
    gi_wp2_with fail
    have E:=DF J r.o.MV (vF (Kk c.Kq) i.loc) (.inr rfl) b (fun h5 u N p=>m.o.okT (P:=KB c.cb c.qb (i.rows S.slots.length)) ((Y.o.mono (fun _ _ e=>.inr (.inl e))).trans (p.mono (fun d4 _ e=>om (i:=2) rfl rfl d4 e))) (fun _=>id) (by rcases N with e | N;rw[e];exact f5.o;exact m.o.L_ N)) (by dsimp only;omega) f1;dsimp only at E;rw[<-G.o,e4.o] at E;refine⟨trivial,(CallsIn.inRound a9 (callsIn_wide.2 E)).mono ?_⟩;rintro e O ⟨rfl,a',d5,A,x⟩;rw[G.o] at A x;have d6:Hid (bF c mx (mq+l+1) S.slots.length {i with g:=Bp i.g b j,sF:=_,sn:=_,sa:=a',sc:=d5} O):=r.o.OL A x;have F:=fun z=>Y_ (b:=z) r.o.MV.row
    have d7:Hid (KeepsFrom t.heap.size W O):=f4.o.trans (x.but.keeps (fun z e=>.inr (by rcases e with e | e;exact⟨_,by rw[e];exact r.o.row.type⟩;exact⟨_,F z e⟩)));have d8:Hid (qN c.cb w.heap.size j O):=v.o.but x.but (fun e=>by rcases e with e | e;exact aA v.o.2.1 r.o.row.type (by decide) e;exact aA v.o.2.1 (F _ e) (by decide) rfl) (fun e=>by rcases e with e | e;exact aA v.o.2.2.2.1 r.o.row.type (by decide) e;exact aA v.o.2.2.2.1 (F _ e) (by decide) rfl);clear E A x F f0
    gi_wp2
    have a6:=(m.o.pl.LZ d3.o (by exact HQ.o)).congr (Q':=QAt (Kk c.Kq) S Q (jZ D.ts) (l+1)) (fun n=>by rw[<-Dj V HR.o n,<-X.o]);rw[f3.o] at a6;exact⟨d7.o,_,⟨d6.o,m.o.bs,m.o.run,a6,m.o.loc,m.o.sn⟩,K.o,d8.o⟩
   ·have d2:(b7 == 20)=false:=by simpa using Z
    have d3:Hid (¬Sp (Kk c.Kq) S b):=by
     rintro⟨h4,f,_,H⟩;rw[b6.o] at f;cases f;exact Z (by rw[e7.o];exact H)
    clear Z;rw[d2]
    gi_wp2_with fail
    have E:=DF J r.o.M_ (uZ (Kk c.Kq) i.loc) (.inl rfl) b (fun h5 u N p=>m.o.okT (P:=KB c.cb c.qb (i.rows S.slots.length)) ((Y.o.mono (fun _ _ e=>.inr (.inl e))).trans (p.mono (fun d4 _ e=>om (i:=1) rfl rfl d4 e))) (fun _=>id) (by rcases N with e | N;rw[e];exact f5.o;exact m.o.Md N)) (by dsimp only;omega) f1;dsimp only at E;rw[<-G.o,e4.o] at E;refine⟨trivial,(CallsIn.inRound a9 (callsIn_wide.2 E)).mono ?_⟩;rintro e O ⟨rfl,a',d5,A,x⟩;rw[G.o] at A x;have d6:Hid (bF c mx (mq+l+1) S.slots.length {i with g:=Bp i.g b j,oF:=_,on:=_,oa:=a',oc:=d5} O):=r.o.OT A x;have F:=fun z=>Y_ (b:=z) r.o.M_.row
    have d7:Hid (KeepsFrom t.heap.size W O):=f4.o.trans (x.but.keeps (fun z e=>.inr (by rcases e with e | e;exact⟨_,by rw[e];exact r.o.row.type⟩;exact⟨_,F z e⟩)));have d8:Hid (qN c.cb w.heap.size j O):=v.o.but x.but (fun e=>by rcases e with e | e;exact aA v.o.2.1 r.o.row.type (by decide) e;exact aA v.o.2.1 (F _ e) (by decide) rfl) (fun e=>by rcases e with e | e;exact aA v.o.2.2.2.1 r.o.row.type (by decide) e;exact aA v.o.2.2.2.1 (F _ e) (by decide) rfl);clear E A x F f0
    gi_wp2
    have a6:=(m.o.pl.Mo (by rw[X.o];exact HR.o) d3.o (by exact HQ.o)).congr (Q':=QAt (Kk c.Kq) S Q (jZ D.ts) (l+1)) (fun n=>by rw[<-Dj V HR.o n,<-X.o]);rw[f3.o] at a6;exact⟨d7.o,_,⟨d6.o,m.o.bs,m.o.run,a6,m.o.loc,m.o.sn⟩,K.o,d8.o⟩
theorem jV{α:Type}{cells cells':α->List QA}{f:Nat->α}:∀{n:Nat},(∀i,i<n->cells (f i)=cells' (f i))->bK cells f n=bK cells' f n
 | 0,_=>rfl
 | n+1,h=>by simp only[bK];rw[jV (fun i a=>h i (by omega)),h n (by omega)]
theorem dm.Mk{D:dm}{n:Nat}{loc:Qw->Nat}(d:∀p,p<n->loc (D.es p).name=D.loc (D.es p).name)(h2:∀p,p<D.on->loc (D.oF p)=D.loc (D.oF p))(e:∀p,p<D.sn->loc (D.sF p)=D.loc (D.sF p))(g:∀p,p<D.en->loc (D.eF p).name=D.loc (D.eF p).name):({D with loc:=loc}:dm).rows n=D.rows n:=by
 unfold dm.rows Oz NF Oo;dsimp only;rw[jV (cells:=dP loc) (cells':=dP D.loc) (f:=D.es) (fun i b=>by unfold dP;rw[d i b]),jV (cells:=dP loc) (cells':=dP D.loc) (f:=D.eF) (fun i b=>by unfold dP;rw[g i b]),
  jV (cells:=fun x=>[.pointer (some ⟨loc x,0,none⟩)]) (cells':=fun x=>[.pointer (some ⟨D.loc x,0,none⟩)]) (f:=D.oF) (fun i b=>by rw[h2 i b]),jV (cells:=fun x=>[.pointer (some ⟨loc x,0,none⟩)]) (cells':=fun x=>[.pointer (some ⟨D.loc x,0,none⟩)]) (f:=D.sF) (fun i b=>by rw[e i b])]
structure xg (c:jo):Prop where
 ok:a_ (Kk c.Kq)
 fits:∀y∈c.Kq,y.Fits
 len:c.Kq.length<=60
 rises:mV c.Kq
 nodes:bJ c.wz c.a c.Kq
 fin:jR c.wz
 wk:c.wk<=60
open Classical in
noncomputable def locOf (ts:List Zk) (loc:Qw->Nat) (x:Qw):Nat:=if h:∃t∈ts,t.r.name=x then (Classical.choose h).tb else loc x
theorem tT{ts:List Zk}{loc:Qw->Nat}(l:dB (Qj ts)){t:Zk}(c:t∈ts)(_hn:(ts.map (·.tb)).Nodup):locOf ts loc t.r.name=t.tb:=by
 have h:∃u∈ts,u.r.name=t.r.name:=⟨t,c,rfl⟩;unfold locOf;rw[dif_pos h];obtain⟨m,a⟩:=Classical.choose_spec h;have n:Classical.choose h=t:=by
  obtain⟨i,d,e⟩:=Ph m;obtain⟨k,f,g⟩:=Ph c;have j:=Pg.1 l;rw[<-e,<-g];rw[<-e,<-g] at a;rcases Qf i k with b|rfl|b
  ·have:=j i k (by simpa[Qj] using d) (by simpa[Qj] using f) b;simp only[Qj,List.getElem_map] at this;rw[a] at this;exact Qi this (aI _)
  ·rfl
  ·have:=j k i (by simpa[Qj] using f) (by simpa[Qj] using d) b;simp only[Qj,List.getElem_map] at this;rw[a] at this;exact Qi this (aI _)
 rw[n]
variable {n : Qw}
theorem MP{W:aZ}{σ:Env}{x:Qw}{r:Q_}(b:σ n=some r)(c:(σ x).isSome=true):(doX W σ n x).isSome=true:=by
 by_cases e:x=n
 ·rw[e,mZ b];rfl
 ·obtain⟨y,d⟩:=Ps.1 c;rw[jF e d];rfl
variable {c : jo} {w : Qy}
theorem xL{mx z:Nat}{S:aS}{D:dm}{j:Int}(E:bF c mx z S.slots.length D w)
 (X:BS c.Kq D.ts D.ws) (I:Qj D.ts=S.T) (a5:eH (Kk c.Kq) c.wk S (fun m=>Rdy (Kk c.Kq) S m/\m≠n) (BG D.g n) D.es D.oF D.on D.sF D.sn D.eF D.en D.fF D.fn) (Y:∀t∈D.ts,D.loc t.r.name=t.tb) (a6:∀s∈S.slots,(Qq S.T s.name).isSome=true)
 (b:xg c) (hn:Rdy (Kk c.Kq) S n) (Z:¬Bz S n) (hj: -1<=j/\j<S.slots.length) (c8:mx<=90000) (c9:z<=900000):
  Calls prog 121 #[.pointer (some ⟨c.cb,0,none⟩),.pointer (some ⟨D.loc n,0,none⟩),.int .i64 j] w fun e w'=>e= .returned (.tuple #[])/\∃D',ek c (mx+6) (z+60) (doneS (Kk c.Kq) S n j) (Rdy (Kk c.Kq) (doneS (Kk c.Kq) S n j)) D' w'/\D'.en=D.en:=by
 obtain⟨r,F,J⟩:=hn;have a7:=F;rw[<-I] at F J;obtain⟨a8,K⟩:=bN F;obtain⟨t,p,rfl⟩:=Pv.1 a8;obtain⟨f2,a0⟩:=List.getElem?_of_mem p;have a9:D.loc n=t.tb:=by rw[<-K];exact Y t p
 rw[a9];have a1:=Dx E.bm X a0 J b.ok b.fits b.len b.rises b.nodes c8 b.fin;have b0:n.size<=maxLen:=by
  have:=(b.ok _ _ (E.bm.act t p).1).2.2.1;rw[K] at this;unfold maxLen;omega
 obtain⟨L,M⟩:=ag c.cb;obtain⟨bb,N⟩:=ag c.bb;obtain⟨tb,O⟩:=ag t.tb;have f3:w.cell? ⟨L,0,none⟩=some (.pointer (some ⟨bb,0,none⟩)):=by rw[M,N];exact E.c0
 rw[<-N,<-O] at a1;rw[<-M,<-O];have b1:∀x,(Qq S.T x).isSome=true->∃u∈D.ts,u.r.name=x:=fun x hx=>by
  obtain⟨f4,hy⟩:=Ps.1 hx;rw[<-I] at hy;obtain⟨h1,h2⟩:=bN hy;obtain⟨u,q,rfl⟩:=Pv.1 h1;exact⟨u,q,h2⟩
 have⟨HM,HR,a,HL,b2⟩:=dX E I a5 Y a6;have⟨d0,d1,f5,a2,d2⟩:=dX a1 b1 X M N;have⟨d3,d4,f6,A,b3⟩:=dX O b0 F a7 K;have⟨d5,f7,d6,d7⟩:=oZ p a0 J Z;clear E I a5 Y a6 a1 b1 X M N O b0 F a7 K p a0 J Z a9 a8;go_enter func121,ntmps121
 go_wp2_with fail
 refine d0.o.mono ?_;rintro e P ⟨rfl,v,d',d8,f',d9,Q,b4,b5⟩;rw[d2.o] at Q;have a3:=Q.oth.has;have k:=bX.did HM.o Q;have b6:Qj v=doN (Kk c.Kq) S.T n:=by
  have b7:=a.o.bP.ok.asc;refine KZ k.bm.asc (yj b7 a.o.bP.ok.known).1 ?_;rw[b5,b3.o,HR.o];unfold doN;rw[A.o];simp only;rw[jJ b7 A.o]
 have G:∀x,(Qq S.T x).isSome=true->locOf v D.loc x=D.loc x:=fun x hx=>by
  obtain⟨u,q,rfl⟩:=d1.o x hx;obtain⟨u',e0,B,C⟩:=a3 (u.tb,u.r.name) (List.mem_map.2 ⟨u,q,rfl⟩);dsimp only at B C;rw[HL.o u q,<-C,tT k.bm.asc e0 k.bm.tbs,B]
 have b8:({D with loc:=locOf v D.loc}:dm).rows S.slots.length=D.rows S.slots.length:=by
  refine dm.Mk (fun y i=>G _ ?_) (fun y i=>G _ ?_) (fun y i=>G _ ?_) (fun y i=>G _ ?_)
  ·rw[a.o.vZ y i];have Z:=a.o.bP.back;unfold iR;rw[OZ i,OZ (by omega)];exact b2.o _ (Pf i)
  ·exact Rdy.some (((a.o.off.mem _).1 ⟨y,i,rfl⟩).1.1)
  ·exact Rdy.some (((a.o.spt.mem _).1 ⟨y,i,rfl⟩).1.1)
  ·exact Rdy.some ((a.o.bq _ (BzE.name a.o.bP ((a.o.ends.mem _).1 ⟨y,i,rfl⟩))).1.1)
 obtain⟨l,R⟩:∃l:dm,l= {D with loc:=locOf v D.loc,ts:=v,d:=d',dc:=d8,f:=f',ws:=d9}:=⟨_,rfl⟩;have U:bF c (mx+6) z S.slots.length l P:=by
  have e:l.rows S.slots.length=D.rows S.slots.length:=by rw[<-b8,R];rfl
  unfold bF;rw[e,R];exact k
 have b9:=a.o.done ⟨_,A.o,by rw[<-HR.o];exact d6.o⟩ d7.o hj;have c2:P.cell? ⟨L,2,none⟩=some (.map (some c.qb)):=by rw[a2.o];exact U.c2
 have e1:L<P.heap.size:=by rw[a2.o];exact U.row.lt
 obtain⟨u,q,B,C⟩:=a3 (t.tb,t.r.name) (List.mem_map.2 ⟨t,d5.o,rfl⟩);obtain⟨c0,V,_⟩:=BM.uN k.bm q;dsimp only at B C;rw[B,<-d3.o] at c0 V;rw[C,b3.o] at V;have⟨c1,H,e2,c3,e3⟩:=dX U R b6 b9 b4;have e4:Hid (∀t∈v,locOf v D.loc t.r.name=t.tb):=fun t p=>tT k.bm.asc p k.bm.tbs
 have e5:Hid (∀u,K_ P u->u.cell? ⟨L,2,none⟩=some (.map (some c.qb))/\u.cell? ⟨tb,0,none⟩=some (.string n)):=fun u c4=>⟨(c4.cell e1).trans c2,(c4.cell c0).trans V⟩
 clear U R b6 b9 b4 k Q b5 a3 G b8 q B C V c2;go_wp2
 refine aR 9 e5.o fun wd KD W=>?_
 refine af 0 W ?_;refine af 4 W ?_;refine ae 8 W ?_;obtain⟨w2,e6,c5,k2⟩:=(c1.o.kept KD).iV.del d4.o 0;have e7:Hid (bF c (mx+6) z S.slots.length {l with g:=BG l.g n} w2):=(c1.o.kept KD).Np k2 c5;clear c5 k2;refine ay 9 (fun e8 hK=>?_);go_simp
 refine hK.out _ _ (fun h=>Qi rfl h) ?_;clear hK e8 W;try simp only[Act.put,upA,upB,upC]
 refine az ?_;clear e6;have e9:Hid (ek c (mx+6) z (doneS (Kk c.Kq) S n j) (fun m=>Rdy (Kk c.Kq) S m/\m≠n) {l with g:=BG l.g n} w2):=by
  refine⟨e7.o, ?_, ?_, ?_, ?_,fun s hs=>?_⟩
  ·rw[H.o];exact e3.o
  ·rw[H.o];exact e2.o
  ·rw[H.o];exact c3.o.1
  ·rw[H.o];exact e4.o
  ·show (Qq (doN (Kk c.Kq) S.T n) s.name).isSome=true;unfold doN;rw[A.o];simp only;rw[jJ a.o.bP.ok.asc A.o];exact MP A.o (b2.o s hs)
 have a4:=Ah e9.o b.len b.ok c3.o.2 c9;rw[<-a2.o] at a4;go_wp2_with fail
 refine a4.mono ?_;rintro e w3 ⟨rfl,D3,c6,_,c7⟩;have⟨f0,f1⟩:=aD c7 c6;clear c6 a4 c7;go_wp2
 go_end0
 exact⟨rfl,D3,f1.o,by rw[f0.o,H.o]⟩
def iT(c:jo)(S:aS):Nat:=eT (c.Kq.map (·.name)) (Qq S.T)
structure vE (c:jo) (mx mq:Nat) (S:aS) (D:dm) (w:Qy):Prop where
 i:ek c mx mq S (Rdy (Kk c.Kq) S) D w
 b1:mx+6*iT c S<=9000
 b2:mq+60*iT c S<=500000
 b3:S.slots.length+iT c S<=2000+D.en
 b4:∀(k:Nat) (e:aX),S.busy[k]? =some (some e)->0<=e.fin/\e.fin<=20*(S.slots.length:Int)
def rV(c:jo)(S:aS)(w:Qy):Prop:=∃mx mq D,vE c mx mq S D w
theorem Bc{mx e:Nat}{S:aS}{Q:Qw->Prop}{D:dm}(h:ek c mx e S Q D w){S0:aS}(f:S0.T=S.T){j:Int}(g:Rdy (Kk c.Kq) S n):iT c (doneS (Kk c.Kq) S0 n j)<iT c S:=by
 have b:dU c.Kq S.T:=by rw[<-h.run];exact h.bs.good
 obtain⟨r,a,i⟩:=g;have d:=b.wf;have k:=(ul d ⟨r,a,i⟩ (c.Kq.map (·.name))).2 (wI (d _ _ a).web);have l:Qq (doN (Kk c.Kq) S.T n)=doX (Kk c.Kq) (Qq S.T) n:=by
  unfold doN;rw[a];exact jJ b.asc a
 unfold iT;show eT _ (Qq (doN (Kk c.Kq) S0.T n))<_;rw[f,l];exact k
theorem Tryz.GA(u:Qy)(x:gM)(loc:Qw->Nat):(Instr.field 147 (.agg #[.int .i64 x.at',.int .i64 x.worker,.string x.name,.pointer (some ⟨loc x.name,0,none⟩),.int .i64 x.fin,.int .i64 x.place,.int .i64 x.cause]) 2).run prog u= .ok (.int .i64 x.fin) u:=by kernel_rfl
theorem xK{S:aS}{t:Int}(hA:rV c S w)(Q:xg c)(hf:uY t S):
  Calls prog 71 #[.pointer (some ⟨c.cb,0,none⟩),.int .i64 t] w fun e w'=>e= .returned (.tuple #[])/\∃S',kH (Kk c.Kq) t S S'/\rV c S' w'/\S'.slots=S.slots/\(S'=S\/iT c S' < iT c S):=by
 obtain⟨mx,mq,b3,hB⟩:=hA;obtain⟨cb,a0⟩:=ag c.cb;rw[<-a0];have⟨q,H,HB,HF⟩:=oZ a0 Q hB hf;clear a0 Q hB hf;go_enter func71,ntmps71
 go_wp2
 go_loopg [] b3.en (fun gg wr=>∃(d:aS) (v y:Nat) (a:dm),Hid (gg=a.en)/\Hid (vE c v y d a wr)/\Hid (uY t d)/\Hid (∀S',kH (Kk c.Kq) t d S'->kH (Kk c.Kq) t S S')/\Hid (d.slots=S.slots)/\Hid (d=S\/iT c d<iT c S))
 case atStart=>exact⟨S,mx,mq,b3,rfl,HB,HF,fun _ a1=>a1,rfl,.inl rfl⟩
 case round=>
  obtain⟨d,v,y,a,d0,b,b5,a2,a3,a4⟩:=hrel;have hE:=b.o.i.mem.MW;rw[<-q.o] at hE;have HE:=Kz hE;clear hE;have r:=xw wr HE.o;by_cases I:a.en=0
  ·have J:decide (a.en=0)=true:=by simpa using I
   rw[J] at r;have HZ:=Kz I;clear I J;go_wp2_with fail
   refine r.mono ?_;rintro e l ⟨rfl,s⟩;rw[s];clear s l r;go_wp2
   go_end0
   refine⟨rfl,d,a2.o _ (.stop fun k e Q z=>?_),⟨v,y,a,b.o⟩,a3.o,a4.o⟩;have F:=b.o.i.pl;rw[HZ.o] at F;exact F.idle k e Q
  ·obtain⟨A,hm⟩:∃A,a.en=A+1:=⟨a.en-1,by omega⟩;have J:decide (a.en=0)=false:=by simpa using I
   rw[J] at r;have F:=b.o.i.pl;rw[hm] at F;obtain⟨k,x,x1,x2,x3,x4,x5,x6,x7,x8,x9,b6,b7⟩:=F.LQ;have b8:=rE wr HE.o (by omega);have⟨b9,B,X1,X2,X3⟩:=dX b8 hm x1 x2 x3;have⟨X5,X6,X7,X8,X9⟩:=dX x5 x6 x7 x8 x9;have⟨c0,d1⟩:=aD b6 b7;clear F x1 x2 x3 x5 x6 x7 x8 x9 b6 b7 b8 hm I J;have X4:=Kz x4;clear x4;by_cases z:x.fin=t
   ·have R:((a.eF 0).fin == t)=true:=by rw[X4.out];simpa using z
    have T:=Kz z;clear z;go_wp2_with fail
    refine r.mono ?_;rintro e l ⟨rfl,s⟩;rw[s];clear s l r;go_wp2_with fail
    refine b9.o.mono ?_;rintro e l ⟨rfl,K⟩;have a5:=Kz K;clear K;unfold qE;have c1:=Tryz.GA l (a.eF 0) a.loc;have G:=Kz (b.o.i.kept a5.o);have a6:=G.o.mem.MW;rw[B.o] at a6;have d2:=G.o.lens H.o.len;have a7:=Ji l a6 (fun U u hy k=>G.o.okE k (om (i:=3) rfl (by show Value.slice a.xa a.en a.xc=_;rw[B.o])) (G.o.Nq (by rw[B.o];exact hy))) (by have:=B.o;have:=H.o.wk;omega);rw[<-q.o] at a7;have d3:=Kz a7;clear a7 a6 d2;go_wp2_with fail
    refine d3.o.mono ?_;rintro e h ⟨rfl,a8,a9⟩;rw[q.o] at a8 a9;have V:Hid (bF c v y d.slots.length {a with eF:=eZ bf a.eF A,en:=A,xa:=a.xa,xc:=a.xc} h):=G.o.mem.OG a8 (by rw[B.o];exact a9);clear a8 a9;unfold qE;clear c1;obtain⟨m,L⟩:=ag (h.alloc (.cells #[.int .i64 (a.eF 0).at',.int .i64 (a.eF 0).worker,.string (a.eF 0).name,.pointer (some ⟨a.loc (a.eF 0).name,0,none⟩),.int .i64 (a.eF 0).fin,.int .i64 (a.eF 0).place,.int .i64 (a.eF 0).cause] 147));obtain⟨_,M,_,C,_,D,_⟩:=aO.new (loc:=a.loc) h (a.eF 0);simp only[PD] at M C D;rw[<-L] at M C D;rw[X5.out] at M;rw[X3.out] at C;rw[X6.out] at D;have K3:K_ h m:=by rw[L];exact ak _ _
    have z3:h.heap.size<m.heap.size:=by rw[L];simp
    have W:Hid (m.cell? ⟨h.heap.size,1,none⟩=some (.int .i64 (k:Int))/\m.cell? ⟨h.heap.size,3,none⟩=some (.pointer (some ⟨a.loc x.name,0,none⟩))/\m.cell? ⟨h.heap.size,5,none⟩=some (.int .i64 (x.slot:Int))):=⟨M,C,D⟩;clear M C D;go_wp2_with fail
    rw[<-L];clear L;have d4:=Kz (V.o.kept K3);have d5:cb<h.heap.size:=by rw[q.o];exact V.o.row.lt
    have c2:Hid (∀X,(Value.slice a.fa a.fn a.fc).ownBlock=some X->X<h.heap.size):=fun X hb=>(V.o.EL.row.lt X hb).2
    obtain⟨E,R⟩:=ag h.heap.size;rw[<-R] at W z3 d5 c2⊢;clear R K3 V;refine Qk.region (by kernel_rfl) (fun u=>u.cell? ⟨E,1,none⟩=some (.int .i64 (k:Int))) 6 W.o.1 (fun N=>?_);have O:K_ m m.drew:=bB m;generalize d6:m.drew=wd at N O⊢;clear d6;refine af 0 N ?_;refine ae 4 N ?_;refine ae 5 N ?_;have b0:=Kz (d4.o.kept O);have Y:=CZ wd b0.o.EL uD rfl k (fun _ _ _ _=>trivial) (by have:=(G.o.lens H.o.len).2.2.2.2;have:=H.o.wk;dsimp only;omega) b0.o.bm.kw.size;rw[<-q.o] at Y;dsimp only at Y;have d7:=Kz Y;clear Y;refine ax 6 (fun d8 hK=>?_);go_simp
    go_at_call 69
    refine d7.o.mono ?_;rintro e w4 ⟨rfl,d9,c4,b1,P⟩;rw[q.o] at b1 P;have e0:Hid (bF c v y d.slots.length {a with eF:=eZ bf a.eF A,en:=A,xa:=a.xa,xc:=a.xc,fF:=ig ik a.fF a.fn k,fn:=a.fn+1,fa:=d9,fc:=c4} w4):=b0.o.Me b1 P;have nP:¬(E=c.cb\/(Value.slice a.fa a.fn a.fc).ownBlock=some E):=by
     rintro (e|e)
     ·rw[<-q.o] at e;omega
     ·have:=c2.o E e;omega
    have c3:E<wd.heap.size:=by have:=O.size;omega
    have C:w4.cell? ⟨E,3,none⟩=some (.pointer (some ⟨a.loc x.name,0,none⟩)):=(P.but.cell c3 nP).trans ((O.cell z3).trans W.o.2.1);have D:w4.cell? ⟨E,5,none⟩=some (.int .i64 (x.slot:Int)):=(P.but.cell c3 nP).trans ((O.cell z3).trans W.o.2.2);dsimp only;refine hK.out _ _ (fun a1=>absurd rfl a1) ?_;clear hK d8 N b1 P nP;try simp only[Act.put,upA,upB,upC]
    refine az ?_;have Z:=xL (S:={d with busy:=d.busy.set k none}) (n:=x.name) (j:=(x.slot:Int)) e0.o b.o.i.bs b.o.i.run X9.out b.o.i.loc b.o.i.sn H.o c0.out d1.out ⟨by omega,by have:=b.o.i.pl.bP.slot k x X1.out;show (x.slot:Int)<((d.slots.length:Nat):Int);omega⟩ (by have:=b.o.b1;omega) (by have:=b.o.b2;omega);dsimp only at Z;rw[<-q.o] at Z;have e1:=Kz Z;clear Z;go_wp2_with fail
    refine e1.o.mono ?_;rintro e w5 ⟨rfl,D5,c5,c6⟩;have⟨e2,c7⟩:=aD c5 c6;clear c5 c6 C D;go_wp2_with fail
    have e3:=Bc (S0:={d with busy:=d.busy.set k none}) (j:=(x.slot:Int)) b.o.i rfl c0.out;have c8:∀(f:Nat) (g:aX),(d.busy.set k none)[f]? =some (some g)->d.busy[f]? =some (some g):=fun f g p=>by
     rcases iF p with⟨_,U⟩|⟨_,U⟩
     ·cases U
     ·exact U
    go_roundg A
    case measure=>have h1:=d0.o;have h2:=B.o;omega
    case rel=>
     refine⟨_,v+6,y+60,D5,c7.o.symm,⟨e2.o, ?_, ?_, ?_,fun f g p=>b.o.b4 f g (c8 f g p)⟩,fun f g p=>b5.o f g (c8 f g p),fun S' e4=>a2.o S' (.go X1.out T.o (fun f g e5 p c9=>X8.out f g e5 p (by rw[c9,T.o])) e4),a3.o,.inr (by rcases a4.o with e | e;rw[<-e];exact e3;omega)⟩
     ·have:=b.o.b1;omega
     ·have:=b.o.b2;omega
     ·have h1:=b.o.b3;have h2:=c7.o;have e6:=B.o;show d.slots.length+_<=_;omega
   ·have R:((a.eF 0).fin == t)=false:=by rw[X4.out];simpa using z
    have T:=Kz z;clear z;go_wp2_with fail
    refine r.mono ?_;rintro e l ⟨rfl,s⟩;rw[s];clear s l r;go_wp2_with fail
    refine b9.o.mono ?_;rintro e l ⟨rfl,K⟩;have a5:=Kz K;clear K;unfold qE;have c1:=Tryz.GA l (a.eF 0) a.loc;go_wp2
    go_end0
    refine⟨rfl,d,a2.o _ (.stop fun f g p c9=>?_),⟨v,y,a,b.o.i.kept a5.o,b.o.b1,b.o.b2,b.o.b3,b.o.b4⟩,a3.o,a4.o⟩;have h1:=X7.out f g p;have h2:=b5.o k x X1.out;have e6:=T.o;omega
theorem Cj{S:aS}(G:rV c S w)(W:xg c):
  Calls prog 72 #[.pointer (some ⟨c.cb,0,none⟩)] w fun e w'=>e= .returned (.tuple #[])/\∃S',lS (Kk c.Kq) S S'/\rV c S' w'/\S'.slots=S.slots/\S'.busy=S.busy/\iT c S'<=iT c S:=by
 obtain⟨mx,mq,a8,X⟩:=G;obtain⟨cb,H⟩:=ag c.cb;rw[<-H];have⟨m,I,HB⟩:=bA H W X;clear H W X;go_enter func72,ntmps72
 go_wp2
 go_loopg [] (iT c S) (fun gg wr=>∃(d:aS) (p q:Nat) (b:dm),Hid (gg=iT c d)/\Hid (vE c p q d b wr)/\Hid (∀S',lS (Kk c.Kq) d S'->lS (Kk c.Kq) S S')/\Hid (d.slots=S.slots)/\Hid (d.busy=S.busy)/\Hid (iT c d<=iT c S))
 case atStart=>exact⟨S,mx,mq,a8,rfl,HB,fun _ h=>h,rfl,rfl,OU _⟩
 case round=>
  obtain⟨d,p,q,b,a9,a,Y,Z,a0,a1⟩:=hrel;have J:=a.o.i.mem.MV;rw[<-m.o] at J;have g:=xO wr J;clear J;by_cases r:b.sn=0
  ·have s:decide (b.sn=0)=true:=by simpa using r
   rw[s] at g;have HZ:=Kz r;clear r s;go_wp2_with fail
   refine g.mono ?_;rintro e K ⟨rfl,t⟩;rw[t];clear t K g;go_wp2
   go_end0
   refine⟨rfl,d,Y.o _ (.stop ?_),⟨p,q,b,a.o⟩,Z.o,a0.o,a1.o⟩;have k:=a.o.i.pl;rw[HZ.o] at k;exact k.JI
  ·obtain⟨x,l⟩:∃x,b.sn=x+1:=⟨b.sn-1,by omega⟩;have s:decide (b.sn=0)=false:=by simpa using r
   rw[s] at g;have k:=a.o.i.pl;rw[l] at k;obtain⟨L,y,M,N,O⟩:=k.JL;have P:=a.o.i.mem.MV;rw[l] at P;have b0:=a.o.i.lens I.o.len;have Q:=Am wr P (vF (Kk c.Kq) b.loc) (.inr rfl) (fun c5 u hy v=>a.o.i.okT v (om (i:=2) rfl (by show Value.slice b.sa b.sn b.sc=_;rw[l])) (a.o.i.L_ (by rw[l];exact hy))) (by omega);rw[<-m.o] at Q;have⟨a2,a3⟩:=aD Q l;obtain⟨f,R⟩:=ag (b.sF 0);rw[<-R] at L y M N O a2;obtain⟨z,T⟩:=ag (d.cause f);rw[<-T] at y;have⟨X1,X2,A,X4,X5⟩:=dX L y M N O;have⟨c6,a4⟩:=aD R T;clear k P b0 Q l L y M N O R T r s;go_wp2_with fail
   refine g.mono ?_;rintro e K ⟨rfl,t⟩;rw[t];clear t K g;go_wp2_with fail
   refine a2.o.mono ?_;rintro e w2 ⟨rfl,U,B⟩;rw[m.o] at U B;have V:Hid (bF c p q d.slots.length {b with sF:=eZ oQ b.sF x,sn:=x,sa:=b.sa,sc:=b.sc} w2):=a.o.i.mem.OL U (by rw[a3.o];exact B);have C:=a.o.i.okT B.but (om (i:=2) rfl (by show Value.slice b.sa b.sn b.sc=_;rw[a3.o])) (Rdy.some A.out);have a5:f.size<=maxLen:=by
    obtain⟨b5,hr,_⟩:=A.out;obtain⟨c7,G⟩:=Ps.1 (a.o.i.pl.bP.ok.known f b5 hr);have:=(I.o.ok _ _ G).2.2.1;unfold maxLen;omega
   obtain⟨tb,D⟩:=ag (b.loc f);have b6:=Kz D;rw[OkT,<-D] at C;rw[<-D];have b7:Hid (∀u,K_ w2 u->u.cell? ⟨cb,2,none⟩=some (.map (some c.qb))/\u.cell? ⟨tb,0,none⟩=some (.string f)/\(Instr.lookup 130 (.map (some c.qb)) (.string f) false).run prog u= .ok (.int .i64 z) u):=fun u v=>⟨by rw[m.o];exact (V.o.kept v).c2,(v.cell C.1).trans C.2.1,by
    have h:=(V.o.kept v).iV.look a5;dsimp only at h;rw[X2.out] at h;exact h⟩
   clear U B C a5 D;go_wp2
   refine aR 12 b7.o fun wd KD E=>?_
   refine af 0 E ?_;refine af 4 E ?_;refine af 8 E ?_;have F:=xL (S:=d) (n:=f) (j:=z) (V.o.kept KD) a.o.i.bs a.o.i.run X5.out a.o.i.loc a.o.i.sn I.o A.out X4.out (by rw[a4.o];exact a.o.i.pl.bP.iV f) (by have:=a.o.b1;omega) (by have:=a.o.b2;omega);dsimp only at F;rw[<-m.o,<-b6.o] at F;have b8:=Kz F;clear F;refine ax 12 (fun b9 hK=>?_);go_simp
   go_at_call 121
   refine b8.o.mono ?_;rintro e w5 ⟨rfl,D5,a6,a7⟩;have⟨c0,c1⟩:=aD a6 a7;clear a6 a7;dsimp only;refine hK.out _ _ (fun h=>absurd rfl h) ?_;clear hK b9 E;try simp only[Act.put,upA,upB,upC]
   refine az ?_;go_wp2_with fail
   have c3:=Bc (S0:=d) (j:=z) a.o.i rfl A.out;go_roundg (iT c (doneS (Kk c.Kq) d f z))
   case measure=>have h1:=a9.o;omega
   case rel=>
    refine⟨_,p+6,q+60,D5,rfl,⟨c0.o, ?_, ?_, ?_,a.o.b4⟩,fun S' c4=>Y.o S' (.go X1.out (by rw[<-a4.o];exact c4)),Z.o,a0.o,(by have:=a1.o;exact OX (Nat.le_of_lt c3) this)⟩
    ·have:=a.o.b1;omega
    ·have:=a.o.b2;omega
    ·have h1:=a.o.b3;have h2:=c1.o;show d.slots.length+_<=_;omega
theorem aK.grown{α:Type}{cells:α->List QA}{m w1:Qy}{b o B:Nat}{e:TypeId}{k:Nat}{p:QA}{f:Nat->α}{n:Nat}{a:Qx}{cap c d:Nat}{x:α}(h:aK w b o B e k cells p f n a cap)(q:K_ w m)(s:w1.ownsRow B e k (.slice (some ⟨c,0,none⟩) (n+1) d) (n+1) (bK cells f n++cells x))(t:m.grownBy w1 (Value.slice a n cap).ownBlock)(r:(Value.slice a n cap).ownBlock=some c\/c=m.heap.size):
  (aK (w1.setCell ⟨b,o,none⟩ (.slice (some ⟨c,0,none⟩) (n+1) d)) b o B e k cells p (fun i=>if i=n then x else f i) (n+1) (some ⟨c,0,none⟩) d/\ToH w (w1.setCell ⟨b,o,none⟩ (.slice (some ⟨c,0,none⟩) (n+1) d)) b o a n cap (some ⟨c,0,none⟩) (n+1) d)/\w1.frozen? ⟨b,o,none⟩=false/\w1.cell? ⟨b,o,none⟩=some (.slice a n cap)/\But (fun z=>(Value.slice a n cap).ownBlock=some z) w w1:=by
 obtain⟨K,L,v,M⟩:=h.blk;have y:=h.lt;have l:But (fun z=>(Value.slice a n cap).ownBlock=some z) w w1:=(But.aj q).trans (.aQ t (fun _ h=>h));have N:=q.size;have A:(Value.slice (some ⟨c,0,none⟩) (n+1) d).ownBlock≠some b:=fun e=>by
  have g:c=b:=by injection e
  rcases r with j|j
  ·exact h.ne (by rw[j,g])
  ·omega
 have C:w1.ownsRow B e k (.slice (some ⟨c,0,none⟩) (n+1) d) (n+1) (bK cells (fun i=>if i=n then x else f i) (n+1)):=by
  have g:bK cells (fun i=>if i=n then x else f i) (n+1)=bK cells f n++cells x:=by
   simp only[bK,if_true];rw[gQ (fun i O=>by rw[Qh (by omega)])]
  rw[g];exact s
 obtain⟨D,E,F,G⟩:=h.told l C A;have H:=l.row v h.ne;obtain⟨_,I⟩:=H.row.at (i:=o) (by omega);refine⟨⟨D,E,F,G,fun z J=>?_⟩,I,(l.cell y h.ne).trans h.c0,l⟩;have g:c=z:=by injection J
 subst g;rcases r with j|j
 ·exact .inl j
 ·exact .inr (by omega)
section
variable {c : jo} {mx mq n : Nat} {D : dm} {w w' : Qy}
theorem bF.Gz(h:bF c mx mq n D w):aK w c.cb 1 c.wz.heap.size 147 7 (dP D.loc) (.map (some c.qb)) D.es n D.ea D.ec:=bX.heap h (i:=0) rfl h.c2 (by omega) (Dz _) (fun _=>rfl)
theorem bF.effT{a:Nat}(h:bF c mx mq n D w){e:Nat->gM}{b:Qx}{d:Nat}{f:QA}(g:aK w' c.cb 1 c.wz.heap.size 147 7 (dP D.loc) f e a b d)(j:ToH w w' c.cb 1 D.ea n D.ec b a d):bF c mx mq a {D with es:=e,ea:=b,ec:=d} w':=bX.qj h (i:=0) rfl g j
end
theorem zC{mx U a:Nat}{D:dm}{k:Nat}{t cs:Int}(B:bF c mx U a D w)(hg:D.g n=some cs)(V:∀u,But (KB c.cb c.qb (D.rows a)) w u->OkT (Kk c.Kq) D.loc n u/\∀y,g_ D.eF D.en y->OkE D.loc y u)(W:n.size<=maxLen)(ht:0<=t/\t<=1000000)(hc:0<=aM (Kk c.Kq) n/\aM (Kk c.Kq) n<=20)(e0:a<1000000)(b6:D.en<1000000):
  Calls prog 125 #[.pointer (some ⟨c.cb,0,none⟩),.pointer (some ⟨D.loc n,0,none⟩),.int .i64 (k:Int),.int .i64 t] w fun e w'=>e= .returned (.tuple #[])/\∃ea ec xa xc,bF c mx U (a+1) {D with es:=(fun p=>if p=a then ⟨t,(k:Int),n,t+aM (Kk c.Kq) n,(a:Int),cs⟩ else D.es p),ea:=ea,ec:=ec,eF:=ig bf D.eF D.en ⟨t,(k:Int),n,t+aM (Kk c.Kq) n,(a:Int),cs⟩,en:=D.en+1,xa:=xa,xc:=xc} w':=by
 obtain⟨ie,b7,b8,b9,c1⟩:=info_parts Tryz.Il;obtain⟨m,G⟩:=ag c.cb;obtain⟨l,M⟩:=ag (D.loc n);obtain⟨f,H⟩:=ag (aM (Kk c.Kq) n);have I:=(V w (.aj (K_.refl w))).1;have a8:Hid (∀u,K_ w u->u.cell? ⟨l,0,none⟩=some (.string n)/\u.cell? ⟨l,7,none⟩=some (.int .i64 f)/\u.cell? ⟨m,1,none⟩=some (.slice D.ea a D.ec)/\u.cell? ⟨m,2,none⟩=some (.map (some c.qb))/\(Instr.lookup 130 (.map (some c.qb)) (.string n) false).run prog u= .ok (.int .i64 cs) u):=fun u q=>by
  rw[G,M,H];refine⟨(q.cell I.1).trans I.2.1,(q.cell I.1).trans I.2.2,(B.kept q).Gz.c0,(B.kept q).c2, ?_⟩;have h:=(B.kept q).iV.look W;rw[hg] at h;exact h
 rw[<-H] at hc;have e1:IntKind.i64.wrap (t+f)=t+f:=dK (by omega) (by omega);rw[<-G,<-M,<-H];have⟨z,a9,e2,C,c3⟩:=dX G M H B V;have e3:=Kz W;have c4:m<w.heap.size:=by rw[G];exact B.row.lt
 clear G M H B V W hg I;go_enter func125,ntmps125
 go_wp2
 refine aR 33 a8.o fun N O d=>?_
 refine af 0 d ?_;refine af 4 d ?_;refine af 8 d ?_;refine af 12 d ?_;refine af 16 d ?_;refine af 20 d ?_;refine af 24 d ?_;refine af 28 d ?_;refine ay 32 (fun K i=>?_);go_simp
 refine i.out _ _ (fun _=>a8.o _ (O.alloc _)) ?_;clear i K d;try simp only[Act.put,upA,upB,upC]
 refine ax 33 (fun K i=>?_);go_simp
 refine i.out _ _ (fun h=>Qi rfl h) ?_;clear i K;try simp only[Act.put,upA,upB,upC]
 refine az ?_;go_wp2_with fail
 have J:K_ w (N.alloc (.cells #[.int .i64 t,.int .i64 (k:Int),.string n,.pointer (some ⟨l,0,none⟩),.int .i64 (t+f),.int .i64 (a:Int),.int .i64 cs] 147)):=O.alloc _;obtain⟨E,X⟩:=ag (N.alloc (.cells #[.int .i64 t,.int .i64 (k:Int),.string n,.pointer (some ⟨l,0,none⟩),.int .i64 (t+f),.int .i64 (a:Int),.int .i64 cs] 147));obtain⟨b,P⟩:=ag N.heap.size;have r:=X_ N #[.int .i64 t,.int .i64 (k:Int),.string n,.pointer (some ⟨l,0,none⟩),.int .i64 (t+f),.int .i64 (a:Int),.int .i64 cs] 147;have Y:b<E.heap.size:=by rw[P,X];simp
 have e4:w.heap.size<=b:=by rw[P];exact O.size
 rw[<-X] at r J⊢;rw[<-P] at r⊢;have Q:Hid (∀u:Qy,(∀j,u.cell? ⟨b,j,none⟩=E.cell? ⟨b,j,none⟩)->u.cell? ⟨b,0,none⟩=some (.int .i64 t)/\u.cell? ⟨b,1,none⟩=some (.int .i64 (k:Int))/\u.cell? ⟨b,2,none⟩=some (.string n)/\u.cell? ⟨b,3,none⟩=some (.pointer (some ⟨l,0,none⟩))/\u.cell? ⟨b,4,none⟩=some (.int .i64 (t+f))/\u.cell? ⟨b,5,none⟩=some (.int .i64 (a:Int))/\u.cell? ⟨b,6,none⟩=some (.int .i64 cs)):=fun u s=>by
  have g0:=(s 0).trans (r 0 _ rfl);have v:=(s 1).trans (r 1 _ rfl);have g2:=(s 2).trans (r 2 _ rfl);have g3:=(s 3).trans (r 3 _ rfl);have g4:=(s 4).trans (r 4 _ rfl);have g5:=(s 5).trans (r 5 _ rfl);have g6:=(s 6).trans (r 6 _ rfl);exact⟨g0,v,g2,g3,g4,g5,g6⟩
 clear X P r O;have Z:Hid (∀u,K_ E u->u.cell? ⟨m,1,none⟩=some (.slice D.ea a D.ec)/\u.cell? ⟨b,0,none⟩=some (.int .i64 t)/\u.cell? ⟨b,1,none⟩=some (.int .i64 (k:Int))/\u.cell? ⟨b,2,none⟩=some (.string n)/\u.cell? ⟨b,3,none⟩=some (.pointer (some ⟨l,0,none⟩))/\u.cell? ⟨b,4,none⟩=some (.int .i64 (t+f))/\u.cell? ⟨b,5,none⟩=some (.int .i64 (a:Int))/\u.cell? ⟨b,6,none⟩=some (.int .i64 cs)):=fun u q=>⟨((J.trans q).cell c4).trans (by rw[z.o];exact C.o.Gz.c0),Q.o u (fun _=>q.cell Y)⟩
 refine aR 10 Z.o fun wf KF d=>?_
 have F:=Kz (KF.alloc (.cells #[.int .i64 t,.int .i64 (k:Int),.string n,.pointer (some ⟨l,0,none⟩),.int .i64 (t+f),.int .i64 (a:Int),.int .i64 cs] 147));have c5:=Kz (ai C.o.Gz.row (J.trans F.o));have c6:Hid (∀j u,([.int .i64 t,.int .i64 (k:Int),.string n,.pointer (some ⟨l,0,none⟩),.int .i64 (t+f),.int .i64 (a:Int),.int .i64 cs]:List QA)[j]? =some u->(wf.alloc (.cells #[.int .i64 t,.int .i64 (k:Int),.string n,.pointer (some ⟨l,0,none⟩),.int .i64 (t+f),.int .i64 (a:Int),.int .i64 cs] 147)).cell? ((⟨wf.heap.size,0,none⟩:Addr).add j)=some u):=fun j u hj=>by rw[PQ];exact X_ wf #[.int .i64 t,.int .i64 (k:Int),.string n,.pointer (some ⟨l,0,none⟩),.int .i64 (t+f),.int .i64 (a:Int),.int .i64 cs] 147 j u hj
 have c7:Hid (∀u∈([.int .i64 t,.int .i64 (k:Int),.string n,.pointer (some ⟨l,0,none⟩),.int .i64 (t+f),.int .i64 (a:Int),.int .i64 cs]:List QA),u.oneCell'=true):=fun u s=>by
  simp only[PS,PT,or_false] at s;rcases s with rfl | rfl | rfl | rfl | rfl | rfl | rfl <;> rfl
 have c8:Hid (a+1<=maxLen):=by show _<=_;unfold maxLen;omega
 have c9:Hid ((a+1)*64<=140737488355328):=by show _<=_;omega
 have d0:Hid (c.wz.heap.size<=(wf.alloc (.cells #[.int .i64 t,.int .i64 (k:Int),.string n,.pointer (some ⟨l,0,none⟩),.int .i64 (t+f),.int .i64 (a:Int),.int .i64 cs] 147)).heap.size):=OX C.o.bm.kw.size (J.trans F.o).size;refine af 0 d ?_;refine ae 4 d ?_;refine ae 5 d ?_;refine ax 6 (fun K i=>?_);go_simp
 refine i.out _ _ (fun _=>Z.o _ F.o) ?_;clear i K d;try simp only[Act.put,upA,upB,upC]
 have d:=Z.o _ F.o;refine ax 7 (fun K i=>?_);refine wp_append_lies _ (.tmp 45) (.tmp 47) 131 rfl c.wz.heap.size 147 ie (.agg #[.int .i64 0,.int .i64 0,.string ⟨#[]⟩,.pointer none,.int .i64 0,.int .i64 0,.int .i64 0]) 7 64 underlying131 b7 b8 b9 c1 rfl (by decide) (.slice D.ea a D.ec) a _ rfl c5.o ⟨wf.heap.size,0,none⟩ 1 1 [.int .i64 t,.int .i64 (k:Int),.string n,.pointer (some ⟨l,0,none⟩),.int .i64 (t+f),.int .i64 (a:Int),.int .i64 cs] rfl rfl c6.o c7.o (by decide) c8.o c9.o d0.o _ rfl ?_;intro v A x a0 a1 b0 _;rw[a9.o] at a0;obtain⟨hJ,f0,S,kk⟩:=C.o.Gz.grown (x:=⟨t,(k:Int),n,t+f,(a:Int),cs⟩) (J.trans F.o) a0 a1 b0;rw[<-z.o] at hJ f0 S;have HJ:=Kz hJ;have a2:But (fun d1=>(Value.slice D.ea a D.ec).ownBlock=some d1) E x:=(But.aj F.o).trans (.aQ a1 (fun _ h=>h));have a3:Hid (∀j,x.cell? ⟨b,j,none⟩=E.cell? ⟨b,j,none⟩):=fun j=>a2.cell Y (fun e=>by have:=(C.o.Gz.row.lt _ e).2;omega)
 have d2:Hid (b<x.heap.size):=OV Y a2.size;clear a0 a1 b0 hJ kk a2;refine i.out _ _ (fun _=>⟨S,Q.o _ a3.o⟩) ?_;clear i K d;try simp only[Act.put,upA,upB,upC]
 have d:(fun u=>u.cell? ⟨m,1,none⟩=some (.slice D.ea a D.ec)/\u.cell? ⟨b,0,none⟩=some (.int .i64 t)/\u.cell? ⟨b,1,none⟩=some (.int .i64 (k:Int))/\u.cell? ⟨b,2,none⟩=some (.string n)/\u.cell? ⟨b,3,none⟩=some (.pointer (some ⟨l,0,none⟩))/\u.cell? ⟨b,4,none⟩=some (.int .i64 (t+f))/\u.cell? ⟨b,5,none⟩=some (.int .i64 (a:Int))/\u.cell? ⟨b,6,none⟩=some (.int .i64 cs)) x:=⟨S,Q.o _ a3.o⟩;refine ae 8 d ?_;refine ae 9 d ?_;refine ax 10 (fun K i=>?_);go_simp
 refine i.out _ _ (fun h=>Qi rfl h) ?_;clear i K d;try simp only[Act.put,upA,upB,upC]
 refine az ?_;clear f0 S;go_wp2_with fail
 have b1:Hid (bF c mx U (a+1) {D with es:=(fun b2=>if b2=a then ⟨t,(k:Int),n,t+f,(a:Int),cs⟩ else D.es b2),ea:=some ⟨v,0,none⟩,ec:=A} (x.setCell ⟨m,1,none⟩ (.slice (some ⟨v,0,none⟩) (a+1) A))):=C.o.effT (by rw[<-z.o];exact HJ.o.1) (by rw[<-z.o];exact HJ.o.2);have b3:Hid (But (KB c.cb c.qb (D.rows a)) w (x.setCell ⟨m,1,none⟩ (.slice (some ⟨v,0,none⟩) (a+1) A))):=by
  exact HJ.o.2.but.mono (fun a4 _ e=>om (i:=0) rfl rfl a4 (by rw[<-z.o];exact e))
 have b4:Hid (∀j,(x.setCell ⟨m,1,none⟩ (.slice (some ⟨v,0,none⟩) (a+1) A)).cell? ⟨b,j,none⟩=E.cell? ⟨b,j,none⟩):=fun j=>by
  rw[Pq _ _ _ _ (by intro e;injection e with e5;omega)];exact a3.o j
 have b5:b<(x.setCell ⟨m,1,none⟩ (.slice (some ⟨v,0,none⟩) (a+1) A)).heap.size:=by rw[size_setCell];exact d2.o
 generalize d3:x.setCell ⟨m,1,none⟩ (.slice (some ⟨v,0,none⟩) (a+1) A)=L at b1 b3 b4 b5⊢;clear d3;refine jI 4 Q.o (fun j=>((K_.refl L).drew.cell b5).trans (b4.o j)) (fun d=>?_);have KG:K_ L L.drew:=bB L;generalize d4:L.drew=wg at d KG⊢;clear d4;refine af 0 d ?_;have a5:=Kz (b1.o.kept KG);have T:=KJ wg a5.o.MW ⟨t,(k:Int),n,t+f,(a:Int),cs⟩ (fun y u hy q=>by
  have d5:But (KB c.cb c.qb (D.rows a)) w u:=(b3.o.trans (.aj KG)).trans (q.mono (fun a4 _ e=>om (R:=D.rows a) (i:=3) rfl rfl a4 e));have h:=c3.o u d5;rcases hy with rfl | hy
  ·exact⟨h.1.1,h.1.2.1⟩
  ·exact h.2 y hy) (by exact b6) a5.o.bm.kw.size
 dsimp only[qE] at T;rw[<-z.o,<-a9.o] at T;have d6:=Kz T;clear T;refine ax 4 (fun K i=>?_);go_simp
 go_at_call 157
 refine d6.o.mono ?_;rintro e w5 ⟨rfl,d7,d8,a6,a7⟩;rw[z.o] at a6 a7;have d9:=Kz (a5.o.OG a6 a7);clear a6 a7;dsimp only;refine i.out _ _ (fun h=>absurd rfl h) ?_;clear i K d;try simp only[Act.put,upA,upB,upC]
 refine az ?_;go_wp2
 go_end0
 exact⟨rfl,some ⟨v,0,none⟩,A,d7,d8,d9.o⟩
theorem H_(a:Qx)(n b cap c:Nat):(Value.slice a n cap).ownBlock= (Value.slice a b c).ownBlock:=by
 cases a with
 | none=>rfl
 | some x=>obtain⟨e,o,g⟩:=x;cases o <;> cases g <;> rfl
variable {w : Qy}
theorem yw{c:jo}{S:aS}{t:Int}(F:rV c S w)(M:xg c)(l:∀n,¬Sp (Kk c.Kq) S n)(ht:0<=t/\t<=20*(S.slots.length:Int)):
  Calls prog 73 #[.pointer (some ⟨c.cb,0,none⟩),.int .i64 t] w fun e w'=>e= .returned (.tuple #[])/\∃S',j_ (Kk c.Kq) t S S'/\rV c S' w'/\S'.T=S.T:=by
 obtain⟨mx,mq,a8,hB⟩:=F;obtain⟨cb,X⟩:=ag c.cb;rw[<-X];have⟨D,v,HB,c5,HT⟩:=dX X M hB l ht;clear X M hB l ht;go_enter func73,ntmps73
 go_wp2
 go_loopg [] a8.on (fun gg wr=>∃(b:aS) (p q:Nat) (a:dm),Hid (gg=a.on)/\Hid (vE c p q b a wr)/\Hid (∀n,¬Sp (Kk c.Kq) b n)/\Hid (0<=t/\t<=20*(b.slots.length:Int))/\Hid (∀S',j_ (Kk c.Kq) t b S'->j_ (Kk c.Kq) t S S')/\Hid (b.T=S.T))
 case atStart=>exact⟨S,mx,mq,a8,rfl,HB,c5,HT,fun _ Y=>Y,rfl⟩
 case round=>
  obtain⟨b,p,q,a,c6,d,Z,N,a0,a1⟩:=hrel;have hE:=d.o.i.mem.M_;have hF:=d.o.i.mem.EL;rw[<-D.o] at hE hF;have r:=xO wr hE;have z:=Ff (num:=fun x:Nat=>(x:Int)) wr hF;clear hE hF;by_cases g:a.on=0
  ·have h:decide (a.on=0)=true:=by simpa using g
   rw[h] at r;have HZ:=Kz g;clear g h z;go_wp2_with fail
   refine r.mono ?_;rintro e j ⟨rfl,f⟩;rw[f];clear f j r;go_wp2
   go_end0
   refine⟨rfl,b,a0.o _ (.stop (.inr fun n hn=>?_)),⟨p,q,a,d.o⟩,a1.o⟩;have k:=d.o.i.pl;rw[HZ.o] at k;exact k.off.empty n ⟨hn.1,hn.2,Z.o n⟩
  ·obtain⟨m,hm⟩:∃m,a.on=m+1:=⟨a.on-1,by omega⟩;have h:decide (a.on=0)=false:=by simpa using g
   rw[h] at r;have A:=Kz hm;clear g h hm;by_cases g:a.fn=0
   ·have h:decide (a.fn=0)=true:=by simpa using g
    rw[h] at z;have HZ:=Kz g;clear g h;go_wp2_with fail
    refine r.mono ?_;rintro e j ⟨rfl,f⟩;rw[f];clear f j r;go_wp2_with fail
    refine z.mono ?_;rintro e j ⟨rfl,f⟩;rw[f];clear f j z;go_wp2
    go_end0
    refine⟨rfl,b,a0.o _ (.stop (.inl fun a2 M=>?_)),⟨p,q,a,d.o⟩,a1.o⟩;have k:=d.o.i.pl;rw[HZ.o] at k;exact k.free.empty a2 M
   ·obtain⟨B,hq⟩:∃B,a.fn=B+1:=⟨a.fn-1,by omega⟩;have h:decide (a.fn=0)=false:=by simpa using g
    rw[h] at z;have G:=Kz hq;clear g h hq;have k:=d.o.i.pl;rw[A.o,G.o] at k;obtain⟨x1,x2,H,x4,x5⟩:=k.begin (t:=t) Z.o;have a3:=d.o.i.mem.M_;rw[A.o] at a3;have a9:=d.o.i.lens v.o.len;have b0:∀x,(x=c.cb\/(Value.slice a.oa (m+1) a.oc).ownBlock=some x)->KB c.cb c.qb (a.rows b.slots.length) x:=om (i:=1) rfl (by show Value.slice a.oa a.on a.oc=_;rw[A.o]);have b5:∀x,(x=c.cb\/(Value.slice a.fa (B+1) a.fc).ownBlock=some x)->KB c.cb c.qb (a.rows b.slots.length) x:=om (i:=4) rfl (by show Value.slice a.fa a.fn a.fc=_;rw[G.o]);obtain⟨nm,I⟩:=ag (a.oF 0);obtain⟨E,O⟩:=ag (a.fF 0);have b6:(Qq b.T nm).isSome=true:=Rdy.some (by rw[I];exact H.1.1);rw[<-O] at x1 x2;rw[<-I] at H x4;rw[<-I,<-O] at x5;have b7:0<=aM (Kk c.Kq) nm/\aM (Kk c.Kq) nm<=20/\nm.size<=maxLen:=by
     obtain⟨b8,P,_⟩:=H.1.1;obtain⟨e6,F⟩:=Ps.1 (d.o.i.pl.bP.ok.known nm b8 P);have h1:=(v.o.ok _ _ F).2.2.1;have h2:=(v.o.ok _ _ F).1.1;unfold aM maxLen;rw[F];simp only;omega
    have⟨X1,X2,X3,X4,X5⟩:=dX x1 x2 H x4 x5;have⟨c7,c8,b9,c9,c0⟩:=dX I O b0 b5 b6;have⟨Q,J,d0⟩:=bA b7 a9 a3;clear k a3 a9 b0 b5 I O b6 b7 x1 x2 H x4 x5;go_wp2_with fail
    refine r.mono ?_;rintro e j ⟨rfl,f⟩;rw[f];clear f j r;go_wp2_with fail
    refine z.mono ?_;rintro e j ⟨rfl,f⟩;rw[f];clear f j z;go_wp2
    refine Qk.region (by kernel_rfl) (fun _=>True) 10 trivial (fun C=>?_);have K:K_ wr wr.drew:=bB wr;generalize d1:wr.drew=wd at C K⊢;clear d1;refine af 0 C ?_;refine ae 5 C ?_;refine ae 6 C ?_;refine ae 7 C ?_;refine ae 9 C ?_;have a4:=Am wd (d0.o.kept K) (uZ (Kk c.Kq) a.loc) (.inl rfl) (fun y u hy a2=>d.o.i.okT ((But.aj K).trans a2) b9.o (d.o.i.Md (by rw[A.o];exact hy))) (by have:=J.o;have:=A.o;omega);rw[<-D.o,<-c7.o] at a4;have d2:=Kz a4;clear a4;refine ax 4 (fun L s=>?_);go_simp
    go_at_call 123
    refine d2.o.mono ?_;rintro e w2 ⟨rfl,a5,R⟩;rw[D.o] at a5 R;have c1:Hid (bF c p q b.slots.length {a with oF:=eZ (fun x y=>gI (aM (Kk c.Kq) x) (aM (Kk c.Kq) y) x y) a.oF m,on:=m,oa:=a.oa,oc:=a.oc} w2):=(d.o.i.mem.kept K).OT a5 (by rw[A.o];exact R);have d3:Hid (But (KB c.cb c.qb (a.rows b.slots.length)) wr w2):=(But.aj K).trans (R.but.mono (fun x _ e=>b9.o x e));clear a5 R;dsimp only;refine s.out _ _ (fun _=>trivial) ?_;clear s L;try simp only[Act.put,upA,upB,upC]
    have U:=c1.o.EL;dsimp only at U;rw[G.o] at U;have a6:=IL (num:=fun x:Nat=>(x:Int)) w2 U uD rfl (fun _ _ _ _=>trivial) (by have:=J.o;have:=G.o;have:=v.o.wk;omega);rw[<-D.o,<-c8.o] at a6;have d4:=Kz a6;clear a6 U;refine ax 8 (fun L s=>?_);go_simp
    go_at_call 126
    refine d4.o.mono ?_;rintro e w3 ⟨rfl,a7,V⟩;rw[D.o] at a7 V;have d5:Hid (bF c p q b.slots.length {a with oF:=eZ (fun x y=>gI (aM (Kk c.Kq) x) (aM (Kk c.Kq) y) x y) a.oF m,on:=m,oa:=a.oa,oc:=a.oc,fF:=eZ ik a.fF B,fn:=B,fa:=a.fa,fc:=a.fc} w3):=c1.o.Me a7 (by dsimp only;rw[G.o];exact V);have d6:Hid (But (KB c.cb c.qb (a.rows b.slots.length)) wr w3):=d3.o.trans (V.but.mono (fun x _ e=>c9.o x e));clear a7 V;dsimp only;refine s.out _ _ (fun _=>trivial) ?_;clear s L;try simp only[Act.put,upA,upB,upC]
    have W:=zC (n:=nm) (k:=E) (t:=t) (cs:=b.cause nm) d5.o X4.out (fun u ku=>by
     have c2:But (KB c.cb c.qb (a.rows b.slots.length)) wr u:=d6.o.trans (ku.mono (fun x _ e=>by
      rcases e with e|e|⟨b8,P,e⟩
      ·exact .inl e
      ·exact .inr (.inl e)
      ·simp only[dm.rows,PS,PT,or_false] at P;rcases P with rfl|rfl|rfl|rfl|rfl
       ·exact .inr (.inr ⟨_,Pj (i:=0) rfl,e⟩)
       ·exact .inr (.inr ⟨_,Pj (i:=1) rfl,(H_ _ _ _ _ _).trans e⟩)
       ·exact .inr (.inr ⟨_,Pj (i:=2) rfl,e⟩)
       ·exact .inr (.inr ⟨_,Pj (i:=3) rfl,e⟩)
       ·exact .inr (.inr ⟨_,Pj (i:=4) rfl,(H_ _ _ _ _ _).trans e⟩)))
     exact⟨d.o.i.okT c2 (fun _=>id) c0.o,fun y hy=>d.o.i.okE c2 (fun _=>id) (d.o.i.Nq hy)⟩) Q.o.2.2 (by have:=N.o;have:=d.o.b3;have:=J.o;have:=v.o.wk;omega) ⟨Q.o.1,Q.o.2.1⟩ (by have:=d.o.b3;have:=J.o;have:=v.o.wk;omega) (by have:=J.o;have:=v.o.wk;dsimp only;omega)
    dsimp only at W;rw[<-D.o] at W;have d7:=Kz W;clear W;refine ax 10 (fun L s=>?_);go_simp
    go_at_call 125
    refine d7.o.mono ?_;rintro e w4 ⟨rfl,d8,d9,e0,e1,c3⟩;have e2:=Kz c3;clear c3;dsimp only;refine s.out _ _ (fun Y=>absurd rfl Y) ?_;clear s L C;try simp only[Act.put,upA,upB,upC]
    refine az ?_;go_wp2
    go_roundg m
    case measure=>have h1:=c6.o;have h2:=A.o;omega
    case rel=>
     refine⟨f_ (Kk c.Kq) b t E nm,p,q,{a with es:=(fun c4=>if c4=b.slots.length then ⟨t,(E:Int),nm,t+aM (Kk c.Kq) nm,(b.slots.length:Int),b.cause nm⟩ else a.es c4),ea:=d8,ec:=d9,oF:=eZ (fun x y=>gI (aM (Kk c.Kq) x) (aM (Kk c.Kq) y) x y) a.oF m,on:=m,eF:=ig bf a.eF a.en ⟨t,(E:Int),nm,t+aM (Kk c.Kq) nm,(b.slots.length:Int),b.cause nm⟩,en:=a.en+1,xa:=e0,xc:=e1,fF:=eZ ik a.fF B,fn:=B},rfl,⟨⟨?_,d.o.i.bs,d.o.i.run,X5.out,d.o.i.loc,fun e3 l=>?_⟩,d.o.b1,d.o.b2, ?_,fun k' e' e4=>?_⟩,Z.o,⟨N.o.1, ?_⟩,fun S' e5=>a0.o S' (.go X1.out X2.out X3.out e5),a1.o⟩
     ·show bF c p q (b.slots++ [_]).length _ w4;rw[PM];exact e2.o
     ·rcases Pe.1 l with l|l
      ·exact d.o.i.sn e3 l
      ·rw[Pd.1 l];exact c0.o
     ·have h1:=d.o.b3;show (b.slots++ [_]).length+iT c b<=2000+ (a.en+1);rw[PM,Qr];omega
     ·have hl:(f_ (Kk c.Kq) b t E nm).slots.length=b.slots.length+1:=by show (b.slots++ [_]).length=_;rw[PM,Qr]
      rw[hl];have h2:=N.o;have e7:=Q.o;rcases iF e4 with⟨_,y⟩|⟨_,y⟩
      ·simp only[Option.some.injEq] at y;subst y;dsimp only;omega
      ·have:=d.o.b4 k' e' y;omega
     ·have hl:(f_ (Kk c.Kq) b t E nm).slots.length=b.slots.length+1:=by show (b.slots++ [_]).length=_;rw[PM,Qr]
      rw[hl];have h2:=N.o;omega
variable {mx : Nat}
theorem Cv{c:jo}{B:Nat}{S:aS}{D:dm}(v:ek c mx B S (fun _=>False) D w)(f:xg c)(hi:lg S)(O:∀n,S.cause n= -1)(P:mx+6*iT c S<=9000)(Q:B+60+60*iT c S<=500000)(R:S.slots.length=0):
  Calls prog 30 #[.pointer (some ⟨c.cb,0,none⟩)] w fun e w'=>∃(u:Int) (A:aS),e= .returned (.int .i64 u)/\si (Kk c.Kq) 0 S u A/\rV c A w':=by
 have C:=Ah (j:= -1) v f.len f.ok (fun n _ _=>O n) (by omega);obtain⟨cb,E⟩:=ag c.cb;rw[<-E] at C⊢;have⟨x,F,T,U,b8⟩:=dX E f hi P Q;have⟨b9,c0⟩:=aD R C;clear E f hi P Q R C v O;go_enter func30,ntmps30
 go_wp2_with fail
 refine c0.o.mono ?_;rintro e w1 ⟨rfl,D1,V,_,_⟩;have c1:Hid (rV c S w1):=⟨mx,B+60,D1,V,U.o,b8.o,by have:=b9.o;have:=U.o;omega,fun k e f=>Qi f (T.o k e)⟩;clear V;go_wp2
 go_loopg [3] (iT c S+1) (fun W G wr=>∃(t:Int) (b:aS),G= .int .i64 t/\Hid (rV c b wr)/\Hid (0<=t/\t<=20*(b.slots.length:Int))/\Hid (uY t b)/\Hid (∀u A,si (Kk c.Kq) t b u A->si (Kk c.Kq) 0 S u A)/\Hid (iT c b<W\/(W=iT c b/\∃(k:Nat) (e:aX),b.busy[k]? =some (some e)/\e.fin=t)))
 case atStart=>exact⟨0,S,rfl,c1,⟨Int.le_refl _,by omega⟩,fun k e f=>Qi f (T.o k e),fun _ _ v=>v,.inl (Px _)⟩
 case round=>
  obtain⟨t,b,rfl,HA,HT,X,Y,HP⟩:=hrel;have H:=xK HA.o F.o X.o;rw[<-x.o] at H;go_wp2_with fail
  refine H.mono ?_;rintro e w2 ⟨rfl,S2,Z,a0,a1,a2⟩;have⟨a3,c2,a4⟩:=bA Z a1 a2;have I:=Cj a0 F.o;rw[<-x.o] at I;clear H Z a1 a2 a0;go_wp2_with fail
  refine I.mono ?_;rintro e w3 ⟨rfl,J,K,a5,L,c3,a6⟩;have⟨c4,d1,c5⟩:=bA K L a6;have M:=yw (t:=t) a5 F.o K.busy.2 (by rw[L,c2.o];exact HT.o);rw[<-x.o] at M;clear I K L a6 a5 c3;go_wp2_with fail
  refine M.mono ?_;rintro e w4 ⟨rfl,g,a7,c6,a8⟩;have a9:Hid (jb (Kk c.Kq) t b g):=⟨S2,J,a3.o,c4.o,a7⟩;have c7:Hid (iT c g<=iT c J):=by show iT c g<=iT c J;unfold iT;rw[a8];exact OU _
  clear M a7 a8;obtain⟨b0,b5,d,b6⟩:=c6;have a:=Kz b6;clear b6;have y:=a.o.i.mem.MW;rw[<-x.o] at y;have h:=xw w4 y;have HE:=Kz y;clear y;by_cases m:d.en=0
  ·have p:decide (d.en=0)=true:=by simpa using m
   rw[p] at h;have HZ:=Kz m;clear m p;go_wp2_with fail
   refine h.mono ?_;rintro e q ⟨rfl,r⟩;rw[r];clear r q h;go_wp2
   go_ret
   have l:=a.o.i.pl;rw[HZ.o] at l;exact⟨t,g,rfl,Y.o _ _ (.last a9.o l.idle),b0,b5,d,a.o⟩
  ·have p:decide (d.en=0)=false:=by simpa using m
   rw[p] at h;obtain⟨b7,hm⟩:∃b7,d.en=b7+1:=⟨d.en-1,by omega⟩;have l:=a.o.i.pl;rw[hm] at l;obtain⟨k,z,x1,x2,G,x4,x5,x6,x7,x8⟩:=l.LQ;have c8:=Kz (rE w4 HE.o (by omega));have⟨N,X4,X7⟩:=bA x1 x4 x7;clear l x1 x2 G x4 x5 x6 x7 x8 m p hm;go_wp2_with fail
   refine h.mono ?_;rintro e q ⟨rfl,r⟩;rw[r];clear r q h;go_wp2_with fail
   refine c8.o.mono ?_;rintro e q ⟨rfl,k5⟩;have c9:=Kz k5;clear k5;unfold qE;have d0:=Tryz.GA q (d.eF 0) d.loc;go_wp2_with fail
   clear d0;go_roundg (iT c g)
   case measure=>
    have h3:=c5.o;have h4:=c7.o;rcases HP.o with e|⟨e,k',e',g1,g2⟩
    ·rcases a4.o with s|s
     ·rw[s] at h3;omega
     ·omega
    ·rcases a4.o with s|s
     ·have d2:=a3.o.behind X.o k' e' (by rw[s];exact g1);omega
     ·omega
   case rel=>
    refine⟨z.fin,g,by rw[X4.out],⟨b0,b5,d,a.o.i.kept c9.o,a.o.b1,a.o.b2,a.o.b3,a.o.b4⟩,a.o.b4 k z N.out,X7.out,fun u A hw=>Y.o u A (.next a9.o ⟨k,z,N.out,rfl⟩ X7.out hw),.inr ⟨rfl,k,z,N.out,rfl⟩⟩
noncomputable def newD (ts:List Zk) (d:Qx) (dc:Nat) (f:Qw->QA) (ws:Qw->List Nat):dm where
 g:=fun _=>none
 loc:=locOf ts (fun _=>0)
 es:=fun _=>⟨0,0,ByteArray.empty,0,0,0⟩
 ea:=none
 ec:=0
 oF:=fun _=>ByteArray.empty
 on:=0
 oa:=none
 oc:=0
 sF:=fun _=>ByteArray.empty
 sn:=0
 sa:=none
 sc:=0
 eF:=fun _=>⟨0,0,ByteArray.empty,0,0,0⟩
 en:=0
 xa:=none
 xc:=0
 fF:=fun _=>0
 fn:=0
 fa:=none
 fc:=0
 ts:=ts
 d:=d
 dc:=dc
 f:=f
 ws:=ws
variable {cap : Nat}
theorem CV{Kq:List Qz}{wz:Qy}{bb:Nat}{a:Qx}{rd:Qx}{y rc mb:Nat}{ts:List Zk}{d:Qx}{dc:Nat}{f:Qw->QA}{ws:Qw->List Nat}{wk:Nat}(i:BM (cO.no wz) Kq wz w bb a cap rd y rc mb mx ts d dc f ws):
  bF ⟨Kq,wz,wk,w.heap.size+1,w.heap.size,bb,a,cap,rd,y,rc,mb⟩ mx 0 0 (newD ts d dc f ws) ((w.alloc (.map #[] 0)).alloc (.cells #[.pointer (some ⟨bb,0,none⟩),.slice none 0 0,.map (some w.heap.size),.slice none 0 0,.func (.func 65) #[] #[],.slice none 0 0,.func (.func 66) #[] #[],.slice none 0 0,.func (.func 67) #[] #[],.slice none 0 0,.func (.func 68) #[] #[]] 142)):=by
 obtain⟨j,p⟩:=ag (w.alloc (.map #[] 0));obtain⟨k,m⟩:=ag (j.alloc (.cells #[.pointer (some ⟨bb,0,none⟩),.slice none 0 0,.map (some w.heap.size),.slice none 0 0,.func (.func 65) #[] #[],.slice none 0 0,.func (.func 66) #[] #[],.slice none 0 0,.func (.func 67) #[] #[],.slice none 0 0,.func (.func 68) #[] #[]] 142));rw[<-p,<-m];have s:j.heap.size=w.heap.size+1:=by rw[p];simp
 have L:k.heap.size=w.heap.size+1+1:=by rw[m,PL,s]
 have B:K_ w j:=by rw[p];exact ak w _
 have z:K_ j k:=by rw[m];exact ak j _
 have b:=X_ j #[.pointer (some ⟨bb,0,none⟩),.slice none 0 0,.map (some w.heap.size),.slice none 0 0,.func (.func 65) #[] #[],.slice none 0 0,.func (.func 66) #[] #[],.slice none 0 0,.func (.func 67) #[] #[],.slice none 0 0,.func (.func 68) #[] #[]] 142;rw[<-m,s] at b;have C:aL k (w.heap.size+1) 142 11:=by
  rw[m,<-s];exact⟨_,World.alloc_heap_new j _,rfl⟩
 have D:gK k w.heap.size 0 (fun _=>none):=by
  have h:=gK.new w;rw[<-p] at h;exact h.but (S:=fun _=>False) (.aj z) id
 have E:=i.kw.size;have F:=i.kept (B.trans z);have l:∀x,KB (w.heap.size+1) w.heap.size ((newD ts d dc f ws).rows 0) x->w.heap.size<=x/\x<k.heap.size:=fun x c=>by
  rcases c with rfl|rfl|⟨r,g,e⟩
  ·omega
  ·omega
  ·simp only[dm.rows,PS,PT,or_false] at g;rcases g with rfl | rfl | rfl | rfl | rfl <;> cases e
 have G:∀r∈(newD ts d dc f ws).rows 0,k.cell? ⟨w.heap.size+1,r.o,none⟩=some r.v/\k.ownsRow wz.heap.size r.e r.sz r.v r.n r.xs/\r.v.ownBlock≠some (w.heap.size+1):=fun r g=>by
  simp only[dm.rows,PS,PT,or_false] at g;rcases g with rfl|rfl|rfl|rfl|rfl
  ·exact⟨b 1 _ rfl,PU _ _ _ _,fun e=>by cases e⟩
  ·exact⟨b 3 _ rfl,PU _ _ _ _,fun e=>by cases e⟩
  ·exact⟨b 5 _ rfl,PU _ _ _ _,fun e=>by cases e⟩
  ·exact⟨b 7 _ rfl,PU _ _ _ _,fun e=>by cases e⟩
  ·exact⟨b 9 _ rfl,PU _ _ _ _,fun e=>by cases e⟩
 have M:mb<w.heap.size:=by obtain⟨N,O,_,H,_⟩:=i.map;exact H.lt
 refine⟨F.as ⟨OU _,fun x c=>(l x c).2,fun _ _=>rfl,fun e=>?_,fun e=>?_,fun t q=>⟨fun e=>?_,fun x c e=>?_⟩,fun I x c e=>?_,fun P J=>?_⟩ (fun x c e=>?_),C,b 0 _ rfl,b 2 _ rfl,b 4 _ rfl,b 6 _ rfl,b 8 _ rfl,b 10 _ rfl,D,by show wz.heap.size<=w.heap.size+1;omega,E,G,fun r g=>?_, ?_, ?_⟩
 ·have:=(l _ e).1;have:=i.row.lt;omega
 ·have:=(l _ e).1;omega
 ·have:=(l _ e).1;have:=(i.fu t q).row.lt;omega
 ·have:=(l _ e).1;have:=((i.fu t q).dY c).2.2;omega
 ·have:=(l _ e).1;have:=((i.iU I).lt x c).2;omega
 ·obtain⟨t,q,rfl⟩:=Pv.1 J;exact⟨t,q,rfl,rfl⟩
 ·have:=(l _ e.2).1;have:=(i.items.lt x c).2;omega
 ·simp only[dm.rows,PS,PT,or_false] at g;rcases g with rfl|rfl|rfl|rfl|rfl
  ·exact .inl rfl
  ·exact .inr (.inl rfl)
  ·exact .inr (.inr (.inl rfl))
  ·exact .inr (.inr (.inr (.inl rfl)))
  ·exact .inr (.inr (.inr (.inr rfl)))
 ·show ([1,3,5,7,9]:List Nat).Nodup
  decide
 ·refine Pg.2 fun A Q K R T x c=>?_
  have g:((newD ts d dc f ws).rows 0)[A]∈(newD ts d dc f ws).rows 0:=Pf K;generalize ((newD ts d dc f ws).rows 0)[A]=r at g c;simp only[dm.rows,PS,PT,or_false] at g;rcases g with rfl | rfl | rfl | rfl | rfl <;> cases c
def ND(Kq:List Qz)(wz:Qy)(bb:Nat)(a:Qx)(cap:Nat)(rd:Qx)(rn rc mb mx:Nat)(ts:List Zk)(d:Qx)(dc:Nat)(f:Qw->QA)(ws:Qw->List Nat)(wk:Nat)(e:Ending)(w':Qy):Prop:=
 ∃(cb qb:Nat) (fF:Nat->Nat) (fa:Qx) (fc:Nat),e= .returned (.pointer (some ⟨cb,0,none⟩))/\iw ik fF wk (fun k=>k<wk)/\bF ⟨Kq,wz,wk,cb,qb,bb,a,cap,rd,rn,rc,mb⟩ mx 0 0 {newD ts d dc f ws with fF:=fF,fn:=wk,fa:=fa,fc:=fc} w'
theorem Dw{Kq:List Qz}{wz:Qy}{bb:Nat}{a:Qx}{rd:Qx}{h rc mb:Nat}{ts:List Zk}{d:Qx}{dc:Nat}{f:Qw->QA}{ws:Qw->List Nat}{wk:Nat}(n:BM (cO.no wz) Kq wz w bb a cap rd h rc mb mx ts d dc f ws)(E:wk<=60):
  Calls prog 29 #[.pointer (some ⟨bb,0,none⟩),.int .i64 (wk:Int)] w fun e w'=>ND Kq wz bb a cap rd h rc mb mx ts d dc f ws wk e w':=by
 have A:(Instr.makeMap 130 none).run prog w= .ok (.map (some w.heap.size)) (w.alloc (.map #[] 0)):=by kernel_rfl
 have c:=Kz (CV (wk:=wk) n);clear n;go_enter func29,ntmps29
 go_wp2_with fail
 clear A;obtain⟨F,p⟩:=ag ((w.alloc (.map #[] 0)).alloc (.cells #[.pointer (some ⟨bb,0,none⟩),.slice none 0 0,.map (some w.heap.size),.slice none 0 0,.func (.func 65) #[] #[],.slice none 0 0,.func (.func 66) #[] #[],.slice none 0 0,.func (.func 67) #[] #[],.slice none 0 0,.func (.func 68) #[] #[]] 142));rw[<-p] at c⊢;clear p;obtain⟨q,r⟩:=ag (w.heap.size+1);obtain⟨s,t⟩:=ag w.heap.size;rw[<-r] at c⊢;rw[<-t] at c⊢;clear r t;go_loopw [28] (fun x wr=>∃(i:Nat) (b:Nat->Nat) (j:Qx) (k:Nat),i<=wk/\x= .int .i64 (i:Int)/\Hid (iw ik b i (fun l=>l<i))/\Hid (bF ⟨Kq,wz,wk,q,s,bb,a,cap,rd,h,rc,mb⟩ mx 0 0 {newD ts d dc f ws with fF:=b,fn:=i,fa:=j,fc:=k} wr)) (fun x _=>wk-(intOf x).toNat)
 case atStart=>exact⟨0,fun _=>0,none,0,OW _,rfl,iw.nil (fun l G=>by omega),c.o⟩
 case round=>
  obtain⟨i,b,j,k,H,rfl,v,g⟩:=hrel;by_cases I:i<wk
  ·have J:(i:Int)<(wk:Int):=by omega
   have m:=CZ (num:=fun x:Nat=>(x:Int)) wr g.o.EL uD rfl i (fun _ _ _ _=>trivial) (by dsimp only;omega) g.o.bm.kw.size;dsimp only at m;go_wp2_with fail
   refine m.mono ?_;rintro e K ⟨rfl,B,C,y,z⟩;have D:=Kz (g.o.Me y z);clear m y z;go_wp2
   go_roundw
   case rel=>exact⟨i+1,ig ik b i i,B,C,by omega,by go_num,(v.o.put ug (x:=i) (by omega)).congr (fun l=>by omega),D.o⟩
   case measure=>simp[intOf];omega
  ·have L:¬(i:Int)<(wk:Int):=by omega
   go_wp2
   go_ret
   have:i=wk:=by omega
   subst this;exact⟨q,s,b,j,k,rfl,v.o,g.o⟩
theorem Tryz.EJ :(prog.info? 109).map (·.size)=some 3:=by kernel_rfl
theorem Tryz.nJ :(prog.info? 109).map (fun i=>(i.zero,i.size,i.bytes))=some (some (.agg #[.int .i64 0,.int .i64 0,.string ByteArray.empty]),3,32):=by kernel_rfl
theorem yK(x y:Int)(z:Qw):(#[.int .i64 x,.int .i64 y,.string z]:Array QA).all (·.oneCell')=true:=
 all_oneCell_toArray (cs:=[.int .i64 x,.int .i64 y,.string z]) (by simp[Value.oneCell'])
theorem BA(w:Qy)(x y:Int)(z:Qw)(f:z.size<=1048576):
  Calls prog 77 #[.agg #[.int .i64 x,.int .i64 y,.string z]] w fun e w'=>e= .returned (.agg #[.int .i64 x,.int .i64 y,.string z])/\K_ w w':=by
 go_enter func77,ntmps77
 go_wp2_with fail
 refine (qw _ z f).mono ?_;rintro e a ⟨rfl,b⟩;have d:Row a w.heap.size 3:=Row.kept (Row.alloc (by have:=Row.made w #[.int .i64 x,.int .i64 y,.string z] 109;simpa using this) _) b;have n:a.cell? ⟨w.heap.size,0,none⟩=some (.int .i64 x):=by rw[b.cell (by simp <;> omega)];simp
 have p:a.cell? ⟨w.heap.size,1,none⟩=some (.int .i64 y):=by rw[b.cell (by simp <;> omega)];simp
 have q:a.cell? ⟨w.heap.size,2,none⟩=some (.string z):=by rw[b.cell (by simp <;> omega)];simp
 have c:Row a (w.heap.size+1) 3:=Row.kept (by have:=Row.made (w.alloc (.cells #[.int .i64 x,.int .i64 y,.string z] 109)) #[.int .i64 0,.int .i64 0,.string ⟨#[]⟩] 109;simpa using this) b;have g:Hid (K_ w a):=K_.trans (by repeat (first | apply K_.alloc | exact K_.refl _)) b;have r:=(d.at (i:=2) (by omega)).2;have s:=d.lt;have h:=Kz c;obtain⟨⟨t,v⟩,A⟩:=c.at (i:=0) (by omega);obtain⟨⟨B,C⟩,D⟩:=c.at (i:=1) (by omega);obtain⟨⟨E,F⟩,G⟩:=c.at (i:=2) (by omega);clear b c d;go_wp2
 have j:Row (a.setCell ⟨w.heap.size,2,none⟩ (.string z)) (w.heap.size+1) 3:=Row.set h.o _ rfl _;have k:=OY _ (w.heap.size+1) 0 [.int .i64 x,.int .i64 y,.string z] (j.there (o:=0) (m:=3) (OU _));refine Zx [.int .i64 x,.int .i64 y,.string z] _ results77 rfl k underlying109 rfl Tryz.EJ rfl ⟨rfl, ?_⟩;have l:=g.o
 repeat (first | (refine K_.setCell ?_ (by simp <;> omega) _) | exact l)
theorem uV(w:Qy)(a:Qx)(cap:Nat)(l:List aF)(U:l.length<=1048576)(F:∀c∈l,c.name.size<=1048576)(G:mR w a l):
  Calls prog 76 #[.slice a l.length cap,.func (.func 77) #[] #[]] w fun e w'=>∃a',e= .returned (.slice a' l.length l.length)/\iG w' w.heap.size w'.heap.size a' l/\K_ w w':=by
 by_cases z:l.length=0
 ·have H:l=[]:=Qo z;subst H;go_enter func76,ntmps76
  go_wp2
  go_ret
  exact⟨none,rfl,.inl rfl,K_.refl _⟩
 ·have I:=dJ (P:=prog) 28 109 _ _ _ underlying28 Tryz.nJ .i64 .i64 l.length (by omega) (by omega);have J:((l.length:Int) == 0)=false:=by simpa using z
  go_enter func76,ntmps76
  go_wp2
  clear I J;have q:=Row.made w (madeCells #[.int .i64 0,.int .i64 0,.string ByteArray.empty] (l.length*3)) 109;rw[size_madeCells] at q;have A:K_ w (w.alloc (.cells (madeCells #[.int .i64 0,.int .i64 0,.string ByteArray.empty] (l.length*3)) 109)):=ak _ _;go_loopw [16] (fun r wr=>∃k:Nat,k<=l.length/\r= .int .i64 k/\K_ w wr/\Row wr w.heap.size (l.length*3)/\∀j,j<k->wr.rangeAt w.heap.size (j*3) (l.getD j aF.zero).cells) (fun r _=>l.length-(intOf r).toNat)
  case atStart=>exact⟨0,OW _,rfl,A,q,fun j g=>aB g⟩
  case round=>
   obtain⟨k,V,rfl,h,d,s⟩:=hrel;clear q A;by_cases B:k<l.length
   ·obtain⟨b,o,rfl,W,f⟩:=G.kept h k B;have t:=F (l.getD k aF.zero) (by simp[List.getD,B]);have C:=Kz s;clear s;obtain⟨c,v⟩:=ag (l.getD k aF.zero);rw[<-v] at f t;have K:=Kz v;clear v;have D:=f 0 _ rfl;have L:=f 1 _ rfl;have M:=f 2 _ rfl;simp only[PR] at D;clear f;have N:=d.lt;go_wp2_with fail
    refine (BA _ c.at' (c.worker:Int) c.name t).mono ?_;rintro e i ⟨rfl,E⟩;have n:K_ wr i:=K_.trans (by repeat (first | (refine K_.setCell ?_ (by simp) _) | apply K_.alloc | exact K_.refl _)) E;have O:=h.trans n;have x:=d.kept n;have y:=x.there (o:=k*3) (m:=3) (by omega);have⟨Q,R⟩:=aD y x;have S:Hid (∀j,j<k->i.rangeAt w.heap.size (j*3) (l.getD j aF.zero).cells):=fun j g=>n.range N (C.o j g)
    clear C D L M h E n d x;go_wp2_with (refine wpList_store_mid ?hgd 109 (.tmp 26) (.tmp 25) (by with_reducible rfl) w.heap.size (k*3) #[.int .i64 c.at',.int .i64 (c.worker:Int),.string c.name] ?hx ?hy ?ht ?hi ?h1 ?_)
    case hgd=>rfl
    case hx=>rfl
    case hy=>rfl
    case ht=>exact y
    case hi=>exact Tryz.EJ
    case h1=>exact yK _ _ _
    generalize p:World.setCells i w.heap.size (k*3) (Array.toList #[.int .i64 c.at',.int .i64 (c.worker:Int),.string c.name])=X;have T:=Kz p;clear p y t;go_wp2
    go_roundw
    case rel=>
     have p:=T.o;subst p;refine⟨k+1,by omega,by go_num,K_.setCells (OU _) c.cells (k*3) O,Row.setCells c.cells (k*3) R.o,fun j g=>?_⟩;by_cases e:j=k
     ·subst e;rw[<-K.o];exact OY i w.heap.size (j*3) c.cells Q.o
     ·exact Pm (S.o j (by omega)) w.heap.size (k*3) c.cells (by simp[aF.cells];omega)
    case measure=>simp[intOf];omega
   ·go_wp2
    go_ret
    have:k=l.length:=by omega
    subst this;exact⟨_,rfl,.inr ⟨w.heap.size,rfl,OU _,d.lt,d,s⟩,h⟩
def bI :List aF->List QA
 | []=>[]
 | c :: r=>c.cells++bI r
theorem kP :∀(l:List aF) (c:aF),bI (l++ [c])=bI l++c.cells
 | [],c=>by simp[bI]
 | x :: l,c=>by simp[bI,kP l c]
theorem lq :∀(l:List aF),(bI l).length=l.length*3
 | []=>rfl
 | c :: r=>by simp[bI,lq r,aF.cells];omega
theorem ma :∀(l:List aF) (i j:Nat),i<l.length->j<3->(bI l)[i*3+j]? = ((l.getD i aF.zero).cells)[j]?
 | [],_,_,h,_=>aB h
 | c :: r,0,j,_,hj=>by
  have e:bI (c :: r)=c.cells++bI r:=rfl;rw[e,Nat.zero_mul,PD,PY (by simpa[aF.cells] using hj)]
  rfl
 | c :: r,i+1,j,h,hj=>by
  have e:bI (c :: r)=c.cells++bI r:=rfl;have b:c.cells.length=3:=rfl;rw[e,PZ (by rw[b];omega),b,show (i+1)*3+j-3=i*3+j by omega,ma r i j (by simpa using h) hj]
  rfl
theorem lN{base:Nat}{t:TypeId}{a:Qx}{n:Nat}{l:List aF}(h:w.ownsRow base t 3 (.slice a n cap) n (bI l)):n=l.length/\mR w a l:=by
 have d:n=l.length:=by have:=h.1;rw[lq] at this;omega
 subst d;refine⟨rfl, ?_⟩;rcases h.2 with⟨e,q⟩|⟨g,r,s,e,v,f,x,_,_,_⟩
 ·exact fun i b=>by omega
 ·injection e with k y m;subst k m;refine fun i b=>⟨g,0,rfl,aV f,fun j u c=>?_⟩
  have p:j<3:=by have:=(O_.1 c).1;simpa[aF.cells] using this
  have:=h.cells (g:=g) rfl (i*3+j) u (by rw[ma l i j b p];exact c);rw[PQ,PD] at this;rw[PD];exact this
def KY(es:Nat->gM)(l:List aF):Prop:=∀i (hi:i<l.length),(es i).at'=l[i].at'/\(es i).worker= (l[i].worker:Int)/\(es i).name=l[i].name
theorem zh{c:jo}{Y:Nat}{D:dm}{l:List aF}(h:bF c mx Y l.length D w)(K:KY D.es l)(Z:l.length<=100000)(L:∀s∈l,s.name.size<=1048576):
  Calls prog 31 #[.pointer (some ⟨c.cb,0,none⟩)] w fun e w'=>∃a',e= .returned (.slice a' l.length l.length)/\iG w' w.heap.size w'.heap.size a' l/\K_ w w':=by
 obtain⟨cb,M⟩:=ag c.cb;have f:=h.Gz;rw[<-M] at f⊢;have N:=f.c0;have⟨i,a0,HS⟩:=bA f K L;obtain⟨ic,a1,a2,a3,a4⟩:=aN Tryz.nJ;clear h K L M f;obtain⟨n,t⟩:=ag l.length;rw[<-t] at N i Z⊢;have O:=Kz t;clear t;obtain⟨ea,P⟩:=ag D.ea;rw[<-P] at N i;clear P;go_enter func31,ntmps31
 go_wp2
 go_loopw [3,11] (fun x3 v wr=>∃(k:Nat) (a:Qx) (b:Nat),k<=n/\v= .int .i64 (k:Int)/\x3= .slice a k b/\Hid (wr.ownsRow w.heap.size 109 3 (.slice a k b) k (bI (l.take k)))/\K_ w wr) (fun _ v _=>n-(intOf v).toNat)
 case atStart=>exact⟨0,none,0,OW _,rfl,rfl,Kz (PU _ _ _ _),K_.refl _⟩
 case round=>
  obtain⟨k,a,b,hk,rfl,rfl,Q,d⟩:=hrel;by_cases y:k<n;rotate_left
  ·have b6:¬((k:Int)<(n:Int)):=by omega
   have z:k=n:=by omega
   have A:k=l.length:=by rw[<-O.o];exact z
   have a5:Hid (mR wr a l):=by
    have h:=Q.o;rw[A,PE] at h;exact (lN h).2
   have a7:=Kz z;have B:=uV wr a b l (by omega) HS.o a5.o;rw[<-A] at B;clear y z A;go_wp2_with fail
   refine B.mono ?_;rintro e w2 ⟨j,rfl,R,k2⟩;have HI:=Kz R;clear R B;go_wp2
   go_ret
   exact⟨j,by rw[a7.o];rfl,HI.o.mono d.size (OU _),d.trans k2⟩
  have b7:(k:Int)<(n:Int):=by omega
  have C:k<l.length:=by rw[<-O.o];exact y
  obtain⟨g,rfl,b8,_,_⟩:=i.o.pos (by omega);obtain⟨S,j,T,U,a8,a6,a9⟩:=(i.o.kept d).rf y;obtain⟨s,E⟩:=ag (l[k]);obtain⟨F,G,H⟩:=a0.o k C;obtain⟨x,I⟩:=ag (D.es k);rw[<-E,<-I] at F G H;rw[<-I] at S j T U a8 a6 a9;have b0:Hid (l.take (k+1)=l.take k++ [s]):=by show _=_;rw[Pb C,E]
  rw[F] at S;rw[G] at j;rw[H] at T;clear I E F G H C;obtain⟨m,V⟩:=ag (D.loc x.name);rw[<-V] at U;clear V;have p:K_ wr ((wr.alloc (.cells #[.int .i64 s.at',.int .i64 (s.worker:Int),.string s.name,.pointer (some ⟨m,0,none⟩),.int .i64 x.fin,.int .i64 x.place,.int .i64 x.cause] 147)).alloc (.cells #[.int .i64 s.at',.int .i64 (s.worker:Int),.string s.name] 109)):=(ak _ _).alloc _;have W:=Kz (ai Q.o p);have b1:w.heap.size<=((wr.alloc (.cells #[.int .i64 s.at',.int .i64 (s.worker:Int),.string s.name,.pointer (some ⟨m,0,none⟩),.int .i64 x.fin,.int .i64 x.place,.int .i64 x.cause] 147)).alloc (.cells #[.int .i64 s.at',.int .i64 (s.worker:Int),.string s.name] 109)).heap.size:=(d.trans p).size;have b2:Hid (∀q u,([.int .i64 s.at',.int .i64 (s.worker:Int),.string s.name]:List QA)[q]? =some u->((wr.alloc (.cells #[.int .i64 s.at',.int .i64 (s.worker:Int),.string s.name,.pointer (some ⟨m,0,none⟩),.int .i64 x.fin,.int .i64 x.place,.int .i64 x.cause] 147)).alloc (.cells #[.int .i64 s.at',.int .i64 (s.worker:Int),.string s.name] 109)).cell? ((⟨wr.heap.size+1,0,none⟩:Addr).add q)=some u):=fun q u r=>by have:=X_ (wr.alloc (.cells #[.int .i64 s.at',.int .i64 (s.worker:Int),.string s.name,.pointer (some ⟨m,0,none⟩),.int .i64 x.fin,.int .i64 x.place,.int .i64 x.cause] 147)) #[.int .i64 s.at',.int .i64 (s.worker:Int),.string s.name] 109 q u r;rw[PL] at this;rw[PQ];exact this
  have b3:Hid (∀u∈([.int .i64 s.at',.int .i64 (s.worker:Int),.string s.name]:List QA),u.oneCell'=true):=fun u r=>by simp only[PS,PT,or_false] at r;rcases r with rfl | rfl | rfl <;> rfl
  have KK:=Kz (d.trans p);clear p;go_wp2_with (at_builtin;refine wpList_append_own _ rfl (.tmp 15) (.tmp 18) 28 rfl w.heap.size 109 ic _ 3 32 underlying28 a1 a2 a3 a4 rfl (by decide) (.slice a k b) k (bI (l.take k)) rfl W.o ⟨wr.heap.size+1,0,none⟩ 1 1 [.int .i64 s.at',.int .i64 (s.worker:Int),.string s.name] rfl rfl b2.o b3.o (by unfold maxLen;omega) (by omega) b1 ?_;intro v' w6 J X _;have KP:=aC KK.out (OU _) W.o X;have HP:=Kz J;obtain⟨b4,b5,rfl⟩:=aG J;clear J X)
  go_roundw
  case rel=>
   refine⟨k+1,b4,b5,by omega,by go_num,rfl,Kz ?_,KP⟩;rw[b0.o,kP];exact HP.o
  case measure=>simp[intOf];omega
