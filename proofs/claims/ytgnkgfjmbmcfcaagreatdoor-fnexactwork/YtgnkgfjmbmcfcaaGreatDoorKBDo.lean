import Derived.Test.YtgnkgfjmbmcfcaaGreatDoorKBApp
set_option maxRecDepth 100000
set_option maxHeartbeats 25600000
namespace Go.Proofs.YtgnkgfjmbmcfcaaGreatDoor
open Go.RowKit Go.Proofs.Tryz
variable {tb : Nat}
section
variable {G : cO} {Kq : List Qz} {wz w w' : Qy} {bb : Nat} {a : Qx} {cap : Nat} {rd : Qx} {rn rc : Nat} {mb mx : Nat} {ts : List Zk} {d : Qx} {dc : Nat} {f : Qw -> QA} {ws : Qw -> List Nat}
theorem BM.rO(h:BM G Kq wz w bb a cap rd rn rc mb mx ts d dc f ws){s:Qw}(g:s.size<=maxLen){w1:Qy}(j:w.grownBy w1 (f s).ownBlock):(Instr.lookup 122 (.map (some mb)) (.string s) false).run prog w1= .ok (f s) w1:=by
 obtain⟨N,D,_,i,k⟩:=h.map;have l:w1.ownsMap prog 9 asIs mb N D:=iB (S:=fun b=>(f s).ownBlock=some b) i (But.aQ j (fun b e=>e)) (fun e=>ib i (Y_ (h.iU s) e) rfl);obtain⟨v,p,m,c⟩:=l.lookup Tryz.keyed underlying122 (Tryz.Nl w1) (zd:= .held (.slice none 0 0)) (zp:=[]) rfl (WideMaps.keyOf_string_mk underlying9 g);have e:=k s g;unfold asIs at c;simp only[PN,Prod.mk.injEq] at c;have n:(DataW.held v:DataW QA)= .held (f s):=c.1.trans e;cases n;exact m
theorem BM.wait(h:BM G Kq wz w bb a cap rd rn rc mb mx ts d dc f ws){s:Qw}(L:s.size<=maxLen){w1:Qy}{r:QA}(H:w1.ownsRow wz.heap.size 145 1 r ((ws s).length+1) ((ws s).map xH++ [xH tb]))(M:w.grownBy w1 (f s).ownBlock)(A:∀g,r.ownBlock=some g->(f s).ownBlock=some g\/w.heap.size<=g)(W:mx<=1000000):
  ∃w2,(Instr.mapUpdate 122 (.map (some mb)) (.string s) r).run prog w1= .ok () w2/\BM G Kq wz w2 bb a cap rd rn rc mb (mx+1) ts d dc (fun n=>if n=s then r else f n) (fun n=>if n=s then ws s++ [tb] else ws n):=by
 obtain⟨N,O,X,v,P⟩:=h.map;have I:But (fun b=>(f s).ownBlock=some b) w w1:=But.aQ M (fun b e=>e);have J:=iB v I (fun e=>ib v (Y_ (h.iU s) e) rfl);obtain⟨w2,Q,R,K⟩:=J.update Tryz.keyed underlying122 (by unfold maxLen;omega) (WideMaps.keyOf_string_mk underlying9 L) (d:= .held r) (ps:=[]) rfl;refine⟨w2,Q, ?_⟩;have j:But (fun b=>(f s).ownBlock=some b\/b=mb) w w2:=(I.mono (fun b _ e=>.inl e)).trans (But.aQ K (fun b e=>.inr (PW e).symm));have S:But (fun b=>b=mb) w1 w2:=But.aQ K (fun b e=>(PW e).symm);have ne:∀{b:Nat} {t:TypeId},bZ w b t->t≠145->¬((f s).ownBlock=some b\/b=mb):=fun B E e=>by
  rcases e with e|e
  ·exact aA B (Y_ (h.iU s) e) E rfl
  ·exact ib v B e
 have T:∀{b:Nat} {t:TypeId},bZ w1 b t->¬b=mb:=fun B e=>ib J B e
 have y:=h.row.lt;have m:=ne h.row.type (by decide);have U:Maps.IsMap O:=by obtain⟨Y,Z,_,_,_,rfl⟩:=v;exact⟨_,rfl⟩
 have V:Fen G w2 bb mb ts (fun n=>if n=s then r else f n):=by
  have p:=h.oth.but j (fun b e=>by
   rcases e with e|e
   ·exact h.oth.nf s b e
   ·rw[e];exact h.oth.nm)
  refine⟨p.size,p.lt,p.same,p.nb,p.nm,p.nt,fun n x c=>?_,p.has⟩;by_cases e:n=s
  ·simp only[Qg e] at c;rcases A x c with g|g
   ·exact h.oth.nf s x g
   ·exact h.oth.far g
  ·simp only[Qh e] at c;exact h.oth.nf n x c
 refine⟨j.kept h.kw (fun b e=>?_),j.row h.row m,(j.cell y m).trans h.c0,(j.cell y m).trans h.c1,(j.cell y m).trans h.c2,(j.cell y m).trans h.c3,(j.cell y m).trans h.c4,(j.cell y m).trans h.c5,h.low,j.owns h.items (fun b e i=>?_),fun t z=>(h.fu t z).but j (ne (h.fu t z).row.type (by decide)) (fun x c=>ne ((h.fu t z).dY c).1 (by decide)),h.act,h.asc,h.tbs,h.sep,h.Ad,⟨N+1,_,by omega,R,fun n E=>?_⟩,h.CG,fun n=>?_,fun n C F x c q=>?_,fun n x c e=>?_,fun t z=>OX (h.qb t z) (by omega),V,h.gi⟩
 ·rcases e with e|e
  ·exact ((h.iU s).lt b e).1
  ·rw[e];exact h.CG
 ·rcases i with i|i
  ·exact h.CF s b i e
  ·exact ib v (Y_ h.items e) i
 ·by_cases e:n=s
  ·rw[Qg e,e];exact Maps.atKey_put_same (k:=bT s) U (by show WideAt.IsKeyLit (.string _);exact trivial) _ _
  ·rw[Qh e,<-P n E];exact Maps.atKey_put_other (gH e) _ _
 ·by_cases e:n=s
  ·simp only[Qg e];have D:(ws s++ [tb]).length= (ws s).length+1:=by simp
   have i:(ws s++ [tb]).map xH= (ws s).map xH++ [xH tb]:=by simp
   rw[D,i];exact S.owns H (fun b e=>T (Y_ H e))
  ·simp only[Qh e];refine j.owns (h.iU n) (fun b D i=>?_);rcases i with i | i
   ·exact h.Af n s e b D i
   ·exact ib v (Y_ (h.iU n) D) i
 ·by_cases e:n=s
  ·rw[Qg e] at c;rw[Qh (fun l=>F (e.trans l.symm))] at q;rcases A x c with g | g
   ·exact h.Af s C (fun l=>F (e.trans l)) x g q
   ·have:=((h.iU C).lt x q).2;omega
  ·rw[Qh e] at c;by_cases l:C=s
   ·rw[Qg l] at q;rcases A x q with g|g
    ·exact h.Af n s e x c g
    ·have:=((h.iU n).lt x c).2;omega
   ·rw[Qh l] at q;exact h.Af n C F x c q
 ·by_cases l:n=s
  ·rw[Qg l] at c;rcases A x c with g|g
   ·exact h.CF s x g e
   ·have:=(h.items.lt x e).2;omega
  ·rw[Qh l] at c;exact h.CF n x c e
end
def lT(Kq:List Qz)(ts:List Zk)(l:List Qw):List Qw:=l.filter fun a=>(bE (Kk Kq) (Qq (Qj ts)) a).isNone
structure pI (Kq:List Qz) (ts0:List Zk) (ws0:Qw->List Nat) (tb:Nat) (L1 L2:List Qw) (ts:List Zk) (ws:Qw->List Nat):Prop where
 env:∀n,Qq (Qj ts) n=match Qq (Qj ts0) n with | some x=>some x | none=>if fK L1 n=true/\(Kk Kq n).isSome=true then some (Q_.fresh n) else none
 me:∃t0∈ts0,∃t∈ts,t0.tb=tb/\t.tb=tb/\t.r=t0.r/\t.op=t0.op+ (lT Kq ts0 L2).length/\t.bq=t0.bq
 other:∀t∈ts,t.tb≠tb->(∃t0∈ts0,t0.tb=t.tb/\t0.r=t.r/\t0.op=t.op/\t0.bq=t.bq)\/(t.r=Q_.fresh t.r.name/\(t.op=0/\t.bq= (⟨#[]⟩,[]))/\Qq (Qj ts0) t.r.name=none)
 old:∀t0∈ts0,∃t∈ts,t.tb=t0.tb/\t.r=t0.r
 wt:∀s,ws s=if fK (lT Kq ts0 L2) s=true then ws0 s++ [tb] else ws0 s
variable {ws0 : Qw -> List Nat} {Kq : List Qz} {ts0 : List Zk}
theorem pI.start{t:Zk}(h:t∈ts0):pI Kq ts0 ws0 t.tb [] [] ts0 ws0:=
 ⟨fun n=>by cases Qq (Qj ts0) n <;> simp[fK],⟨t,h,t,h,rfl,rfl,rfl,rfl,rfl⟩,fun u a _=>.inl ⟨u,a,rfl,rfl,rfl,rfl⟩,fun u a=>⟨u,a,rfl,rfl⟩,fun s=>by simp[lT,fK]⟩
variable {n : Qw} {ts : List Zk}
theorem jf :Qq (Qj ts) n=none↔∀t∈ts,t.r.name≠n:=by
 unfold Qq;rw[List.find?_eq_none];simp[Qj]
variable {ws : Qw -> List Nat} {L1 L2 : List Qw}
theorem pI.want{k:List Zk}(h:pI Kq ts0 ws0 tb L1 L2 ts ws)(M:dB (Qj ts))(v:dB (Qj k))(w:(k.map (·.tb)).Nodup)(f:KR Kq ts n k):pI Kq ts0 ws0 tb (L1++ [n]) L2 k ws:=by
 have i:∀m,fK (L1++ [n]) m=true↔fK L1 m=true\/m=n:=fun m=>by simp[dV]
 rcases f with⟨rfl,f⟩|⟨p,new,rfl,l,z,A,B⟩
 ·refine⟨fun m=>?_,h.me,h.other,h.old,h.wt⟩;rw[h.env m];cases q:Qq (Qj ts0) m with
  | some x=>rfl
  | none=>
   simp only;by_cases e:m=n
   ·subst e;rcases f with f|⟨t,C,e⟩
    ·rw[Qh (by rw[f];simp),Qh (by rw[f];simp)]
    ·by_cases a:fK L1 m=true/\(Kk Kq m).isSome=true
     ·rw[Qg a,Qg ⟨(i m).2 (.inl a.1),a.2⟩]
     ·have:=h.env m;rw[q] at this;simp only at this;rw[Qh a] at this;exact Qi e (jf.1 this t C)
   ·by_cases a:fK L1 m=true/\(Kk Kq m).isSome=true
    ·rw[Qg a,Qg ⟨(i m).2 (.inl a.1),a.2⟩]
    ·rw[Qh a,Qh];rintro⟨c,d⟩;rcases (i m).1 c with g|g
     ·exact a ⟨g,d⟩
     ·exact e g
 ·have j:∀u,u∈ts.take p++new :: ts.drop p↔u=new\/u∈ts:=fun u=>by
   rw[Pe,PS];constructor
   ·rintro (h|h|h)
    ·exact .inr (List.mem_of_mem_take h)
    ·exact .inl h
    ·exact .inr (List.mem_of_mem_drop h)
   ·rintro (h|h)
    ·exact .inr (.inl h)
    ·rw[<-Qa p ts] at h;rcases Pe.1 h with h|h
     ·exact .inl h
     ·exact .inr (.inr h)
  have D:Qq (Qj ts) n=none:=jf.2 A;have y:Qq (Qj ts0) n=none:=by
   have:=h.env n;rw[D] at this;cases q:Qq (Qj ts0) n with
   | none=>rfl
   | some x=>rw[q] at this;cases this
  have E:∀m,Qq (Qj (ts.take p++new :: ts.drop p)) m=if m=n then some (Q_.fresh n) else Qq (Qj ts) m:=fun m=>by
   by_cases e:m=n
   ·rw[Qg e,e];have:=bU v (r:=new.r) (PV ((j new).2 (.inl rfl)));rw[l] at this;exact this
   ·rw[Qh e];cases c:Qq (Qj ts) m with
    | some x=>
     obtain⟨F,G⟩:=bN c;obtain⟨u,b,rfl⟩:=Pv.1 F;have:=bU v (r:=u.r) (PV ((j u).2 (.inr b)));rw[G] at this;exact this
    | none=>
     rw[jf] at c⊢;intro u b;rcases (j u).1 b with rfl|b
     ·rw[l];exact fun H=>e H.symm
     ·exact c u b
  have N:∀u∈ts,u.tb≠new.tb:=fun u b e=>by
   have I:(ts.take p++new :: ts.drop p).map (·.tb)= (ts.take p).map (·.tb)++new.tb :: (ts.drop p).map (·.tb):=by simp
   rw[I] at w;have d:=List.nodup_append.1 w;rw[<-Qa p ts] at b;rcases Pe.1 b with b|b
   ·exact d.2.2 _ (PV b) _ (by simp) e
   ·exact (List.nodup_cons.1 d.2.1).1 (by rw[<-e];exact PV b)
  refine⟨fun m=>?_, ?_,fun u b J=>?_,fun s K=>?_,h.wt⟩
  ·rw[E m];by_cases e:m=n
   ·rw[Qg e,e,y];simp only;rw[Qg ⟨(i n).2 (.inr rfl),B⟩]
   ·rw[Qh e,h.env m];cases q:Qq (Qj ts0) m with
    | some x=>rfl
    | none=>
     simp only;by_cases a:fK L1 m=true/\(Kk Kq m).isSome=true
     ·rw[Qg a,Qg ⟨(i m).2 (.inl a.1),a.2⟩]
     ·rw[Qh a,Qh];rintro⟨c,d⟩;rcases (i m).1 c with g|g
      ·exact a ⟨g,d⟩
      ·exact e g
  ·obtain⟨s,c,t,d,L⟩:=h.me;exact⟨s,c,t,(j t).2 (.inr d),L⟩
  ·rcases (j u).1 b with rfl|b
   ·exact .inr ⟨by rw[l];rfl,z,by rw[l];exact y⟩
   ·exact h.other u b J
  ·obtain⟨t,c,d⟩:=h.old s K;exact⟨t,(j t).2 (.inr c),d⟩
theorem pI.ans(h:pI Kq ts0 ws0 tb L1 L2 ts ws)(n:Qw):bE (Kk Kq) (Qq (Qj ts)) n=bE (Kk Kq) (Qq (Qj ts0)) n:=by
 unfold bE;cases b:Kk Kq n with
 | none=>rfl
 | some A=>
  simp only;rw[h.env n];cases c:Qq (Qj ts0) n with
  | some x=>rfl
  | none=>
   simp only
   split
   ·rename_i r hr
    split at hr
    ·cases hr;rfl
    ·cases hr
   ·rfl
theorem pI.skip(h:pI Kq ts0 ws0 tb L1 L2 ts ws)(b:(bE (Kk Kq) (Qq (Qj ts0)) n).isSome=true):pI Kq ts0 ws0 tb L1 (L2++ [n]) ts ws:=by
 have e:lT Kq ts0 (L2++ [n])=lT Kq ts0 L2:=by
  unfold lT;rw[List.filter_append];cases d:bE (Kk Kq) (Qq (Qj ts0)) n with
  | none=>rw[d] at b;cases b
  | some x=>simp[d]
 exact⟨h.env,by rw[e];exact h.me,h.other,h.old,by rw[e];exact h.wt⟩
theorem pI.wait(h:pI Kq ts0 ws0 tb L1 L2 ts ws)(D:bE (Kk Kq) (Qq (Qj ts0)) n=none)(E:n∉L2){i:Nat}{t t':Zk}(hi:ts[i]? =some t)(l:t.tb=tb)(A:(ts.map (·.tb)).Nodup)(x:t'.tb=tb)(y:t'.r=t.r)(F:t'.op=t.op+1)(e0:t'.bq=t.bq):pI Kq ts0 ws0 tb L1 (L2++ [n]) (ts.set i t') (fun m=>if m=n then ws n++ [tb] else ws m):=by
 obtain⟨c,rfl⟩:=O_.1 hi;have e:lT Kq ts0 (L2++ [n])=lT Kq ts0 L2++ [n]:=by
  unfold lT;rw[List.filter_append];simp[D]
 have G:n∉lT Kq ts0 L2:=fun h=>E (List.mem_filter.1 h).1
 have H:Qj (ts.set i t')=Qj ts:=by
  rw[qg c,y];have e0:ts[i].r= (Qj ts)[i]'(by simpa[Qj] using c):=by simp[Qj]
  rw[e0,List.set_getElem_self]
 have mem:∀u∈ts.set i t',u=t'\/(u∈ts/\u.tb≠tb):=fun u a=>by
  obtain⟨j,b,rfl⟩:=Ph a;rw[Qd] at b;rw[Qv]
  split
  ·exact .inl rfl
  ·rename_i f
   refine .inr ⟨Pf b,fun e=>?_⟩;have p:=Pg.1 A;rcases Nat.lt_or_gt_of_ne f with g | g
   ·have:=p i j (by simpa using c) (by simpa using b) g;simp at this;exact this (l.trans e.symm)
   ·have:=p j i (by simpa using b) (by simpa using c) g;simp at this;exact this (e.trans l.symm)
 have one:∀u∈ts,u.tb=tb->u=ts[i]:=fun u a e=>by
  obtain⟨j,b,rfl⟩:=Ph a;by_cases B:i=j
  ·subst B;rfl
  ·have p:=Pg.1 A;rcases Nat.lt_or_gt_of_ne B with g|g
   ·have:=p i j (by simpa using c) (by simpa using b) g;simp at this;exact Qi (l.trans e.symm) this
   ·have:=p j i (by simpa using b) (by simpa using c) g;simp at this;exact Qi (e.trans l.symm) this
 have C:t'∈ts.set i t':=List.mem_iff_getElem.2 ⟨i,by rw[Qd];exact c,by simp⟩;have keep:∀u∈ts,u.tb≠tb->u∈ts.set i t':=fun u a f=>by
  obtain⟨j,b,rfl⟩:=Ph a;refine List.mem_iff_getElem.2 ⟨j,by rw[Qd];exact b, ?_⟩;rw[Qv,Qh (fun e=>f (by subst e;exact l))]
 refine⟨by rw[H];exact h.env, ?_,fun u a f=>?_,fun z I=>?_,fun s=>?_⟩
 ·obtain⟨z,q,t,v,w,J,k,K,L⟩:=h.me;have:=one t v J;subst this;exact⟨z,q,t',C,w,x,by rw[y,k],by rw[F,K,e];simp;omega,e0.trans L⟩
 ·rcases mem u a with rfl|⟨a,_⟩
  ·exact Qi x f
  ·exact h.other u a f
 ·obtain⟨t,q,v,w⟩:=h.old z I;by_cases d:t.tb=tb
  ·have:=one t q d;subst this;exact⟨t',C,by rw[x,<-d,v],by rw[y,w]⟩
  ·exact⟨t,keep t q d,v,w⟩
 ·rw[e];by_cases d:s=n
  ·subst d;rw[Qg rfl,Qg (dV.2 (by simp)),h.wt s,Qh (fun g=>G (dV.1 g))]
  ·rw[Qh d,h.wt s];by_cases k:fK (lT Kq ts0 L2) s=true
   ·rw[Qg k,Qg (dV.2 (Pe.2 (.inl (dV.1 k))))]
   ·rw[Qh k,Qh (fun g=>by
     rcases Pe.1 (dV.1 g) with g|g
     ·exact k (dV.2 g)
     ·exact d (Pd.1 g))]
section
variable {G : cO} {Kq : List Qz} {wz w w' : Qy} {bb : Nat} {a : Qx} {cap : Nat} {rd : Qx} {rn rc : Nat} {mb mx : Nat} {ts : List Zk} {d : Qx} {dc : Nat} {f : Qw -> QA} {ws : Qw -> List Nat}
theorem BM.len(h:BM G Kq wz w bb a cap rd rn rc mb mx ts d dc f ws)(j:Kq.length<=60):ts.length<=60:=by
 have c:=List.Nodup.length_le_of_subset (Ap h.asc) (l₂:=Kq.map (·.name)) (fun n e=>by
  obtain⟨r,g,rfl⟩:=Pv.1 e;obtain⟨t,i,rfl⟩:=Pv.1 g;exact wI (by rw[(h.act t i).1];rfl))
 simp[Qj] at c;omega
def Ny(G:cO)(Kq:List Qz)(wz:Qy)(bb:Nat)(a:Qx)(cap:Nat)(rd:Qx)(rn rc mb mx:Nat)(ts0:List Zk)(ws0:Qw->List Nat)(i:Nat)(t:Zk)(asks:List Qw)(w':Qy):Prop:=
 ∃(ts0' ts:List Zk) (d:Qx) (dc:Nat) (f:Qw->QA) (ws:Qw->List Nat),(ts0'.map fun t=>(t.tb,t.r,t.op,t.bq))= ((ts0.set i {t with qs:=t.qs++asks.map Value.string}).map fun t=>(t.tb,t.r,t.op,t.bq))/\BM G Kq wz w' bb a cap rd rn rc mb (mx+6) ts d dc f ws/\pI Kq ts0' ws0 t.tb asks asks ts ws
theorem BH(F:BM G Kq wz w bb a cap rd rn rc mb mx ts d dc f ws){i:Nat}{t:Zk}(hi:ts[i]? =some t)(aa:Qx)(ca:Nat)(asks:List Qw)(f2:asks.length<=5)(f3:∀x∈asks,x.size<=20)(f4:asks.Nodup)(hA:Strs wz aa asks)(j5:mx<=100000)(c3:Kq.length<=60)(f5:mV Kq)(hN:bJ wz a Kq)(_hww:∀s b,b∈ws s->∃t∈ts,t.tb=b)(f6:∀s,(ws s).length<=1000)(f7:t.op<=1000):
  Calls prog 181 #[.pointer (some ⟨bb,0,none⟩),.pointer (some ⟨t.tb,0,none⟩),.slice aa asks.length ca] w fun e w'=>e= .returned (.tuple #[])/\Ny G Kq wz bb a cap rd rn rc mb mx ts ws i t asks w':=by
 obtain⟨is,f8,f9,g0,g2⟩:=aN Tryz.fJ;obtain⟨ip,g3,g4,g5,g6⟩:=aN Tryz.yZ;have R:=F.at hi;have g7:w.cell? ⟨t.tb,10,none⟩=some t.qv:=R.rng 10 _ rfl;have tz:=R.row.lt;have g8:=F.qb t (Pj hi);have c4:=F.kw.size;have⟨HB,HI,H⟩:=bA F hi R;clear F hi R;go_enter func181,ntmps181
 go_wp2_with (at_builtin;refine iH rfl (.tmp 14) (.tmp 15) 25 rfl wz.heap.size 9 is _ 16 underlying25 f8 f9 g0 g2 rfl t.qv t.qs.length t.qs rfl H.o.ask aa ca asks rfl (hA.kept HB.o.kw) (by unfold maxLen;omega) (by omega) c4 ?_;intro v1 w1 a4 a5 c6;obtain⟨a6,a7,rfl⟩:=aG a4;have c7:w1.heap[t.tb]? =w.heap[t.tb]? :=a5.block _ tz (fun e=>aA H.o.row.type (Y_ H.o.ask e.symm) (by decide) rfl);have a8:=H.o.row.block c7;obtain⟨⟨_,g9⟩,h0⟩:=a8.row.at (i:=10) (by omega);have h3:=a8.lt;have I:=Kz (HB.o.asked HI.o (l:=asks.map Value.string) (by rw[Qc];exact a4) a5 c6 (by simpa using f2));clear a4 a5 c6 c7 a8)
 obtain⟨D,a9⟩:=ag asks.length;obtain⟨A,S⟩:=ag (ts.set i {t with qv:= .slice a6 (t.qs.length+asks.length) a7,qs:=t.qs++asks.map Value.string});rw[<-S] at I;have h4:Hid ((A.map fun t=>(t.tb,t.r,t.op,t.bq))= ((ts.set i {t with qs:=t.qs++asks.map Value.string}).map fun t=>(t.tb,t.r,t.op,t.bq))):=by
  show _=_;rw[S,List.map_set,List.map_set]
  rfl
 have h5:Hid (A.map (·.tb)).Nodup:=I.o.tbs;have T:Hid (∃u∈A,u.tb=t.tb/\u.op=t.op):=by
  obtain⟨hl,rfl⟩:=O_.1 HI.o;exact⟨{ts[i] with qv:= .slice a6 (ts[i].qs.length+asks.length) a7,qs:=ts[i].qs++asks.map Value.string},by rw[S];exact List.mem_iff_getElem.2 ⟨i,by rw[Qd];exact hl,by rw[List.getElem_set_self]⟩,rfl,rfl⟩
 obtain⟨W1,c8⟩:=ag (w1.setCell ⟨t.tb,10,none⟩ (.slice a6 (t.qs.length+asks.length) a7));rw[<-c8] at I⊢;obtain⟨tb,b0⟩:=ag t.tb;rw[<-b0] at T⊢;have h6:=Kz b0;have h7:t.op<=1000:=f7;obtain⟨h8,c9⟩:=ag t.op;rw[<-c9] at T h7;have b1:=Kz a9;rw[<-a9];have j6:D<=5:=by omega
 clear c8 S b0 g9 h0 h3 g7 tz H HI HB g8 c4 c9 a9;go_wp2
 go_loopw [21] (fun x wr=>∃(k:Nat) (U:List Zk) (d2:Qx) (b2:Nat) (E:Qw->QA) (m:Qw->List Nat),k<=D/\x= .int .i64 k/\BM G Kq wz wr bb a cap rd rn rc mb (mx+1+k) U d2 b2 E m/\pI Kq A ws tb (asks.take k) (asks.take k) U m) (fun x _=>D-(intOf x).toNat)
 case atStart=>
  obtain⟨u,c,V,_⟩:=T.o;exact⟨0,A,d,dc,f,ws,OW _,rfl,I.o,by rw[<-V];exact pI.start c⟩
 case round=>
  clear I;obtain⟨k,U,d2,b2,E,m,hk,rfl,J,W⟩:=hrel;by_cases j7:k<D;rotate_left
  ·obtain rfl:k=D:=by omega
   have X:asks.take k=asks:=by rw[b1.o];exact PE
   rw[X] at W;go_wp2
   go_end0
   exact⟨rfl,A,U,d2,b2,E,m,h4.o,J.more (by omega),by rw[<-h6.o];exact W⟩
  obtain⟨n,L⟩:∃n,asks[k]? =some n:=⟨_,OZ (by have:=b1.o;omega)⟩;have h9:n∈asks:=Pj L;have j8:=f3 n h9;have X:asks.take (k+1)=asks.take k++ [n]:=by
   obtain⟨h1,h2⟩:=O_.1 L;rw[Pb h1,h2]
  have d0:n∉asks.take k:=fun h=>by
   obtain⟨h1,h2⟩:=O_.1 L;obtain⟨q,hq,e⟩:=Ph h;rw[Pt] at hq;rw[PI] at e;exact Pg.1 f4 q k (by omega) h1 (by omega) (e.trans h2.symm)
  obtain⟨b,o,rfl,i1,d1⟩:=hA k (by have:=b1.o;omega);have i2:wr.cell? ⟨b,o+k,none⟩=some (.string n):=by
   rw[J.kw.cell i1,d1];simp[List.getD,L]
  have j9:=J.len c3;have i0:(k:Int)<(D:Int):=by omega
  have⟨d4,i3,d5,i4⟩:=oZ X d0 J W;clear L X d0 d1 J W;go_wp2_with fail
  refine (vJ d5.o n (by omega) (by omega) f5 hN).mono ?_;rintro e w3 ⟨rfl,M,d3,b3,N,b4⟩;have k0:=N.len c3;have O:=Kz (i4.o.want d5.o.asc N.asc N.tbs b4);have i5:Hid ((∃t∈M,t.r.name=n)\/Kk Kq n=none):=by
   rcases b4 with⟨rfl,h|h⟩|⟨k1,new,rfl,hr,_⟩
   ·exact .inr h
   ·exact .inl h
   ·exact .inl ⟨new,Pe.2 (.inr (by simp)),by rw[hr];rfl⟩
  have d6:=Kz N;clear N b4 i2;go_wp2_with fail
  refine (ow d6.o n (by omega) (by omega) i5.o).mono ?_;rintro e w4 ⟨⟨fa,tx,ok,rfl,b5⟩,k4⟩;rw[O.o.ans n] at b5;have d7:=Kz b5;have b6:=Kz (d6.o.kept k4);clear b5;cases ok;rotate_left
  ·go_wp2
   go_roundw
   case rel=>exact⟨k+1,M,d3,b3,E,m,by omega,by go_num,(b6.o.more (by omega)).kept (ak _ _),by rw[d4.o];exact O.o.skip (by rw[d7.o];rfl)⟩
   case measure=>simp[intOf];omega
  obtain⟨va,vc,hf⟩:=aG (b6.o.iU n);obtain⟨y,j,d8,d9,k2⟩:∃(y:Nat) (j:Zk),M[y]? =some j/\j.tb=tb/\j.op<=2000:=by
   obtain⟨t0,i6,j,i7,V,i8,k3,k5⟩:=O.o.me;obtain⟨y,hj,rfl⟩:=Ph i7;refine⟨y,M[y],OZ hj,i8, ?_⟩;obtain⟨u,c,g1,i9⟩:=T.o;have k6:(lT Kq A (asks.take k)).length<=5:=OX (List.length_filter_le _ _) (by rw[Pt];omega);have k7:t0.op=h8:=by
    rw[<-i9];have e0:=h5.o;obtain⟨Y,e1,rfl⟩:=Ph i6;obtain⟨Z,e2,rfl⟩:=Ph c;have:Y=Z:=by
     rcases Qf Y Z with g|g|g
     ·have:=Pg.1 e0 Y Z (by simpa using e1) (by simpa using e2) g;simp at this;exact Qi (V.trans g1.symm) this
     ·exact g
     ·have:=Pg.1 e0 Z Y (by simpa using e2) (by simpa using e1) g;simp at this;exact Qi (g1.trans V.symm) this
    subst this
    rfl
   omega
  have k8:(m n).length<=1001:=by
   rw[O.o.wt n];have:=f6 n
   split
   ·rw[PM];simp;omega
   ·omega
  have⟨a0,b7,B⟩:=bA hf d8 d9;clear hf d8 d9;obtain⟨W4,b8⟩:=ag (w4.alloc (.cells #[.bool fa,.string tx] 112));have a1:Hid (BM G Kq wz W4 bb a cap rd rn rc mb (mx+1+k) M d3 b3 E m):=by rw[b8];exact b6.o.kept (ak _ _)
  have e3:Hid (∀w',K_ W4 w'->w'.cell? ⟨bb,5,none⟩=some (.map (some mb))/\(Instr.lookup 122 (.map (some mb)) (.string n) false).run prog w'= .ok (.slice va (m n).length vc) w'):=fun w' K=>⟨(a1.o.kept K).c5,by rw[<-a0.o];exact (a1.o.kept K).look (by unfold maxLen;omega)⟩
  go_upto_region 7 with fail
  rw[<-b8];clear b8 k4;refine aR 14 e3.o fun C KD a2=>?_
  refine af 0 a2 ?_;refine af 4 a2 ?_;refine af 8 a2 ?_;refine ay 12 (fun K z=>?_);go_simp
  have K5:K_ C (C.alloc (.cells #[.pointer (some ⟨tb,0,none⟩)] 145)):=ak _ _;have b9:(C.alloc (.cells #[.pointer (some ⟨tb,0,none⟩)] 145)).cell? ⟨C.heap.size,0,none⟩=some (.pointer (some ⟨tb,0,none⟩)):=X_ C #[.pointer (some ⟨tb,0,none⟩)] 145 0 _ rfl;have c0:=KD.trans K5;refine z.out _ _ (fun _=>e3.o _ c0) ?_;clear z K a2;have p:=Kz (a1.o.kept c0);obtain⟨eb,e4⟩:=ag C.heap.size;rw[<-e4] at b9⊢;generalize j0:C.alloc (.cells #[.pointer (some ⟨tb,0,none⟩)] 145)=w6 at b9 c0 p⊢;clear j0 K5 e4;have c1:=p.o.iU n;rw[a0.o] at c1;have j1:=Kz c1;have j2:=p.o.kw.size;clear c1;try simp only[Act.put,upA,upB,upC]
  refine ay 13 (fun K z=>?_);refine step_append_lies _ rfl (.tmp 46) (.tmp 48) 123 rfl wz.heap.size 145 ip _ 1 8 underlying123 g3 g4 g5 g6 rfl (by decide) (.slice va (m n).length vc) (m n).length ((m n).map xH) rfl j1.o ⟨eb,0,none⟩ 1 1 [xH tb] rfl rfl (fun y u c=>?_) (fun u c=>?_) (by decide) (by unfold maxLen;omega) (by omega) j2 w6.heap.size rfl ?_
  ·match y,c with
   | 0,c=>simp at c;subst c;rw[PQ];exact b9
   | y+1,c=>simp at c
  ·simp at c;subst c;rfl
  intro g gc P e5 Q c2 k9;rw[<-a0.o] at Q c2;obtain⟨w8,l0,e6⟩:=p.o.wait (s:=n) (tb:=tb) (by unfold maxLen;omega) e5 Q (fun x e=>by simp only[Value.ownBlock,PN] at e;subst e;rcases c2 with h | h;exact .inl h;exact .inr (Pw h.symm)) (by omega);have e7:=Kz e6;have e8:But (fun b=>(E n).ownBlock=some b) w6 P:=But.aQ Q (fun b e=>e);have j3:Hid (P.cell? ⟨bb,5,none⟩=some (.map (some mb))/\(Instr.lookup 122 (.map (some mb)) (.string n) false).run prog P= .ok (.slice va (m n).length vc) P):=by
   have w':=P;exact⟨(e8.cell p.o.row.lt (fun e=>aA p.o.row.type (Y_ (p.o.iU n) e) (by decide) rfl)).trans p.o.c5,by have h:=p.o.rO (s:=n) (by unfold maxLen;omega) Q;rw[a0.o] at h;exact h⟩
  refine z.out _ _ (fun _=>j3.o) ?_;clear z K e6 e5 Q c2 e8;try simp only[Act.put,upA,upB,upC]
  refine ay 14 (fun K z=>?_);go_simp
  refine z.out _ _ (fun h=>Qi rfl h) ?_;clear z K;try simp only[Act.put,upA,upB,upC]
  refine az ?_;have a3:=e7.o.at b7.o;have o9:w8.cell? ⟨tb,9,none⟩=some (.int .i64 (j.op:Int)):=by rw[<-B.o];exact a3.rng 9 _ rfl
  have uz:tb<w8.heap.size:=by rw[<-B.o];exact a3.row.lt
  obtain⟨_,j4⟩:=a3.row.row.at (i:=9) (by omega);rw[B.o] at j4;have e9:=Kz (e7.o.store (t':={j with op:=j.op+1}) b7.o (o:=9) (v:= .int .i64 ((j.op+1:Nat):Int)) (by omega) rfl rfl rfl rfl rfl rfl rfl rfl rfl rfl);have f0:((j.op+1:Nat):Int)= (j.op:Int)+1:=by omega
  rw[f0,B.o] at e9;have f1:=Kz (O.o.wait (n:=n) (by rw[d7.o];rfl) i3.o b7.o B.o a1.o.tbs (t':={j with op:=j.op+1}) B.o rfl rfl rfl);rw[B.o] at f1;clear a3 f0;go_wp2
  go_roundw
  case rel=>exact⟨k+1,_,d3,b3,_,_,by omega,by go_num,e9.o,by rw[d4.o];exact f1.o⟩
  case measure=>simp[intOf];omega
end
def NB(xs:List Xz)(w':Qy)(e:Ending):Prop:=∃(a:Qx) (c:Nat),e= .returned (.slice a (aJ xs).length c)/\Strs w' a (aJ xs)
theorem Aa(w:Qy)(d:Qx)(dc:Nat)(a:List Xz)(a4:a.length<=1000)(L:eP w d a):
  Calls prog 197 #[.slice d a.length dc] w fun e w'=>NB a w' e/\K_ w w':=by
 obtain⟨M,N,O,P,Q⟩:=aN Tryz.fJ;go_enter func197,ntmps197
 go_wp2
 go_loopg [3,8] a.length (fun R S T wr=>∃(i:Nat) (c:Qx) (f:Nat),S= .slice c (aJ (a.take i)).length f/\T= .int .i64 (i:Int)/\i+R=a.length/\(aJ (a.take i)).length<=i/\K_ w wr/\Hid (wr.ownsRow w.heap.size 9 1 (.slice c (aJ (a.take i)).length f) (aJ (a.take i)).length ((aJ (a.take i)).map Value.string)))
 case atStart=>exact⟨0,none,0,rfl,rfl,by omega,OU _,K_.refl _,PU _ _ _ _⟩
 case round=>
  obtain⟨i,c,f,rfl,rfl,hi,U,n,p⟩:=hrel;by_cases a5:(i:Int)<(a.length:Int)
  ·have q:i<a.length:=by omega
   obtain⟨a6,o,rfl,hb,j⟩:=(L.kept n) i q;obtain⟨x,r⟩:=ag (a.getD i Xz.zero);rw[<-r] at j;have V:=j 0 _ rfl;have t1:=j 1 _ rfl;rw[PR] at V;have B:Hid (a.take (i+1)=a.take i++ [x]):=by show _=_;rw[Pb q,r];simp[List.getD,q]
   obtain⟨g,s⟩:=ag (aJ (a.take i));rw[<-s] at U p⊢;have C:=Kz s;clear j r s;obtain⟨b,h⟩:=ag (wr.alloc (.cells #[.bool x.fail,.string x.text] 112));have D:K_ wr b:=by rw[h];exact ak _ _
   have t:b.cell? ⟨wr.heap.size,0,none⟩=some (.bool x.fail):=by rw[h];exact X_ wr #[.bool x.fail,.string x.text] 112 0 _ rfl
   have W:b.cell? ⟨wr.heap.size,1,none⟩=some (.string x.text):=by rw[h];exact X_ wr #[.bool x.fail,.string x.text] 112 1 _ rfl
   have X:wr.heap.size<b.heap.size:=by rw[h];simp
   go_upto_region 5 with fail
   rw[<-h];clear h;obtain⟨fb,E⟩:=ag wr.heap.size;rw[<-E] at t W X⊢;clear E;have F:=Kz (ai p.o D);have G:=n.trans D;cases k:x.fail
   ·rw[k] at t;have v:K_ b (b.alloc (.cells #[.string x.text] 9)):=ak _ _;have H:=Kz (ai F.o v);have I:=Kz (G.trans v);have Y:w.heap.size<=(b.alloc (.cells #[.string x.text] 9)).heap.size:=I.out.size;have Z:Hid (∀l u,([.string x.text]:List QA)[l]? =some u->(b.alloc (.cells #[.string x.text] 9)).cell? ((⟨b.heap.size,0,none⟩:Addr).add l)=some u):=fun l u m=>by rw[PQ];exact X_ b #[.string x.text] 9 l u m
    have a0:Hid (∀u∈([.string x.text]:List QA),u.oneCell'=true):=fun u m=>by simp only[PS,PT,or_false] at m;subst m;rfl
    clear v;go_wp2_with (at_builtin;refine wpList_append_own _ rfl (.tmp 15) (.tmp 18) 25 rfl w.heap.size 9 M _ 1 16 underlying25 N O P Q rfl (by decide) (.slice c g.length f) g.length (g.map Value.string) rfl H.o ⟨b.heap.size,0,none⟩ 1 1 [.string x.text] rfl rfl Z.o a0.o (by unfold maxLen;omega) (by omega) Y ?_;intro v' w6 y J _;have KP:=aC I.out (OU _) H.o J;have HP:=Kz y;obtain⟨a1,a2,rfl⟩:=aG y;clear y J)
    go_roundg (gk-1)
    case measure=>omega
    case rel=>
     have e:aJ (a.take (i+1))=g++ [x.text]:=by rw[B.o,mi,<-C.o,k];rfl
     exact⟨i+1,a1,a2,by rw[e,PM];rfl,by go_num,by omega,by rw[e,PM];show g.length+1<=i+1;omega,KP,Kz (by rw[e,Qm,PM];exact HP.o)⟩
   ·rw[k] at t;go_wp2
    go_roundg (gk-1)
    case measure=>omega
    case rel=>
     have e:aJ (a.take (i+1))=g:=by rw[B.o,mi,<-C.o,k];simp
     exact⟨i+1,c,f,by rw[e],by go_num,by omega,by rw[e];omega,G,Kz (by rw[e];exact F.o)⟩
  ·have a3:i=a.length:=by omega
   obtain⟨a7,c9,z,A⟩:=bM p.o;simp only[PO,true_and] at z;rw[<-z.1] at A;have K:=Kz A;clear A z;go_wp2
   go_ret
   rw[a3,PE] at K;exact⟨⟨c,f,rfl,K.o⟩,n⟩
section
variable {G : cO} {Kq : List Qz} {wz w w' : Qy} {bb : Nat} {a : Qx} {cap : Nat} {rd : Qx} {rn rc : Nat} {mb mx : Nat} {ts : List Zk} {d : Qx} {dc : Nat} {f : Qw -> QA} {ws : Qw -> List Nat}
theorem BM.texts(m:BM G Kq wz w bb a cap rd rn rc mb mx ts d dc f ws){i:Nat}{t:Zk}(hi:ts[i]? =some t){w1:Qy}{c:QA}{l:List Qw}(y:w1.ownsRow wz.heap.size 9 1 c (t.r.texts.length+l.length) (t.r.texts.map Value.string++l.map Value.string))(q:w.grownBy w1 t.tv.ownBlock)(z:∀g,c.ownBlock=some g->t.tv.ownBlock=some g\/w.heap.size<=g):
  BM G Kq wz (w1.setCell ⟨t.tb,6,none⟩ c) bb a cap rd rn rc mb mx (ts.set i {t with tv:=c,r:={t.r with texts:=t.r.texts++l}}) d dc f ws:=by
 obtain⟨n,rfl⟩:=O_.1 hi;have h:=m.fu _ (Pf n);have k:=m.Ad _ (Pf n);have H:But (fun b=>b=ts[i].tb\/b∈ts[i].own) w w1:=But.aQ q (fun b e=>.inr (Pe.2 (.inl (PH.2 e))));have I:But (fun b=>b=ts[i].tb\/b∈ts[i].own) w (w1.setCell ⟨ts[i].tb,6,none⟩ c):=But.set H (p:=⟨ts[i].tb,6,none⟩) (.inl rfl) c;have A:w1.heap[ts[i].tb]? =w.heap[ts[i].tb]? :=q.block _ h.row.lt (fun e=>aA h.row.type (Y_ h.txt e.symm) (by decide) rfl);have s:aL w1 ts[i].tb 153 12:=h.row.block A;have J:w1.rangeAt ts[i].tb 0 ts[i].cells:=fun K u v=>(Pi (w:=w) A).trans (h.rng K u v)
 have B:∀{b:Nat},bZ w1 b 9->b≠ts[i].tb:=fun v=>aA v s.type (by decide)
 have C:But (fun b=>b=ts[i].tb) w1 (w1.setCell ⟨ts[i].tb,6,none⟩ c):=But.set (S:=fun b=>b=ts[i].tb) (But.aj (K_.refl w1)) (p:=⟨ts[i].tb,6,none⟩) rfl c;have D:w1.ownsRow wz.heap.size 9 1 ts[i].qv ts[i].qs.length ts[i].qs:=(But.aQ (S:=fun b=>ts[i].tv.ownBlock=some b) q (fun b e=>e)).owns h.ask (fun b e L=>by
  have M:b∈ts[i].tv.ownBlock.toList:=PH.2 L;have N:b∈ts[i].qv.ownBlock.toList:=PH.2 e;unfold Zk.own at k;exact (List.nodup_append.1 k).2.2 b M b N rfl)
 refine m.turn n I (fun b O=>O) ⟨s.set c,ql J s.row (by omega) c, ?_,C.owns D (fun b e=>B (Y_ D e)),h.low⟩ rfl rfl rfl rfl rfl (fun x j=>?_) ?_ (by have:=m.qb ts[i] (Pf n);exact this)
 ·show World.ownsRow _ _ _ _ c (ts[i].r.texts++l).length ((ts[i].r.texts++l).map Value.string);rw[PM,Qm];exact C.owns y (fun b e=>B (Y_ y e))
 ·unfold Zk.own at j⊢;rcases Pe.1 j with j|j
  ·rcases z x (PH.1 j) with e|e
   ·exact .inl (Pe.2 (.inl (PH.2 e)))
   ·exact .inr e
  ·exact .inl (Pe.2 (.inr j))
 ·unfold Zk.own at k⊢;rw[List.nodup_append] at k⊢;refine⟨?_,k.2.1,fun x j E F=>?_⟩
  ·show (c.ownBlock.toList).Nodup;cases c.ownBlock <;> simp
  ·rcases z x (PH.1 j) with e|e
   ·exact k.2.2 x (PH.2 e) E F
   ·have:=(h.ask.lt E (PH.1 F)).2;omega
end
theorem yM{W:aZ}{σ:Env}:∀{l:List Qw} {xs:List Xz},Yz W σ l=some xs->xs.length=l.length/\∀k,k<l.length->bE W σ (l.getD k ByteArray.empty)=some (xs.getD k Xz.zero)
 | [],xs,h=>by
  unfold Yz at h;cases h;exact⟨rfl,fun k a=>aB a⟩
 | n :: l,xs,h=>by
  unfold Yz at h;cases b:bE W σ n with
  | none=>rw[b] at h;cases h
  | some x=>
   rw[b] at h;simp only at h;cases c:Yz W σ l with
   | none=>rw[c] at h;cases h
   | some ys=>
    rw[c] at h;simp only[PN] at h;subst h;obtain⟨d,e⟩:=yM c;refine⟨by simp[d],fun k a=>?_⟩;cases k with
    | zero=>simpa using b
    | succ k=>simpa using e k (by simpa using a)
section
variable {G : cO} {Kq : List Qz} {wz w w' : Qy} {bb : Nat} {a : Qx} {cap : Nat} {rd : Qx} {rn rc : Nat} {mb mx : Nat} {ts : List Zk} {d : Qx} {dc : Nat} {f : Qw -> QA} {ws : Qw -> List Nat}
def MR(G:cO)(Kq:List Qz)(wz:Qy)(bb:Nat)(a:Qx)(cap:Nat)(rd:Qx)(rn rc mb mx:Nat)(ts:List Zk)(d:Qx)(dc:Nat)(f:Qw->QA)(ws:Qw->List Nat)(i:Nat)(t:Zk)(g:bW)(xs:List Xz)(w':Qy)(e:Ending):Prop:=
 (g.over=true/\e= .returned (.bool false)/\∃bl,(bl∈(stepOf ⟨t.cost,t.steps⟩ t.r.at').asks/\g.text= (⟨#[98,101,108,111,119,32]⟩:Qw)++bl)/\BM G Kq wz w' bb a cap rd rn rc mb mx (iZ (ts.set i (({t with bl:=bl}:Zk).ended true g.text)) (ws t.r.name)) d dc (fun n=>if n=t.r.name then .slice none 0 0 else f n) (fun n=>if n=t.r.name then [] else ws n))\/
 (g.over=false/\e= .returned (.bool true)/\∃tv',BM G Kq wz w' bb a cap rd rn rc mb mx (ts.set i {t with tv:=tv',r:={t.r with at':=g.at',texts:=t.r.texts++aJ xs}}) d dc f ws)
theorem zu(D:BM G Kq wz w bb a cap rd rn rc mb mx ts d dc f ws){i:Nat}{t:Zk}(hi:ts[i]? =some t)(s:Xq)(hs:s=stepOf ⟨t.cost,t.steps⟩ t.r.at')(p7:0<=t.r.at')(h1:t.r.at' < t.steps.length)(f3:s.fin=false)(h:List Xz)(j2:Yz (Kk Kq) (Qq (Qj ts)) s.asks=some h)(f6:∀x∈h,x.text.size<=200)(f8:Followed s h (fq s h))(hF:s.Fits)(p8:s.asks.length<=5)(f9:∀x∈s.asks,x.size<=20)(j3:s.asks.length≠0->0<=s.on/\s.on<s.asks.length)(j4:Kq.length<=60)(p9:t.r.texts.length<=1000)
  (j5:t.r.name.size<=1000) (j6:(ws t.r.name).length<=1000) (hw:∀b∈ws t.r.name,∃(j:Nat) (u:Zk),j≠i/\ts[j]? =some u/\u.tb=b/\1<=u.op/\u.op<=1000) (j7:(ws t.r.name).Nodup):
  Calls prog 179 #[.pointer (some ⟨bb,0,none⟩),.pointer (some ⟨t.tb,0,none⟩)] w fun e w'=>MR G Kq wz bb a cap rd rn rc mb mx ts d dc f ws i t (fq s h) h w' e:=by
 obtain⟨ia,j8,j9,k0,k1⟩:=aN Tryz.EH;obtain⟨is,k2,k3,k4,k7⟩:=aN Tryz.fJ;obtain⟨k,b6⟩:∃k:Nat,t.r.at'= (k:Int):=⟨t.r.at'.toNat,by omega⟩;have k8:k<t.steps.length:=by omega
 have hT:=D.at hi;have g0:=D.act t (Pj hi);obtain⟨z,B,cs,g1,S,M,I,H,N,O,rfl,b7,b8,_⟩:=g0.2 k k8;have g2:t.steps.getD k Xq.zero=s:=by rw[hs];unfold stepOf;rw[b6];rfl
 rw[g2] at M b7 b8;have b9:w.cell? ⟨t.tb,8,none⟩=some (.slice t.sa t.steps.length t.sc):=hT.rng 8 _ rfl;have c1:w.cell? ⟨t.tb,4,none⟩=some (.int .i64 t.r.at'):=hT.rng 4 _ rfl;rw[g1] at b9;rw[b6] at c1;have tz:=hT.row.lt;have Y:z<w.heap.size:=OV S D.kw.size;have t0:w.cell? ⟨z,B+k*8,none⟩=some (.slice I s.asks.length H):=(D.kw.cell S).trans (M 0 _ rfl);have t1:w.cell? ⟨z,B+k*8+1,none⟩=some (.int .i64 s.on):=(D.kw.cell S).trans (M 1 _ rfl);have t2:w.cell? ⟨z,B+k*8+2,none⟩=some (.slice N s.cases.length O):=(D.kw.cell S).trans (M 2 _ rfl);have t3:w.cell? ⟨z,B+k*8+3,none⟩=some (.int .i64 s.els):=(D.kw.cell S).trans (M 3 _ rfl);have t4:w.cell? ⟨z,B+k*8+4,none⟩=some (.int .i64 s.fall):=(D.kw.cell S).trans (M 4 _ rfl);have t5:w.cell? ⟨z,B+k*8+5,none⟩=some (.bool false):=by rw[<-f3];exact (D.kw.cell S).trans (M 5 _ rfl)
 have t6:w.cell? ⟨z,B+k*8+6,none⟩=some (.bool s.bad):=(D.kw.cell S).trans (M 6 _ rfl);have t7:w.cell? ⟨z,B+k*8+7,none⟩=some (.string s.give):=(D.kw.cell S).trans (M 7 _ rfl);have g3:Hid (∀w',K_ w w'->w'.cell? ⟨t.tb,8,none⟩=some (.slice (some ⟨z,B,none⟩) t.steps.length t.sc)/\w'.cell? ⟨t.tb,4,none⟩=some (.int .i64 (k:Int))/\w'.cell? ⟨z,B+k*8,none⟩=some (.slice I s.asks.length H)/\w'.cell? ⟨z,B+k*8+1,none⟩=some (.int .i64 s.on)/\w'.cell? ⟨z,B+k*8+2,none⟩=some (.slice N s.cases.length O)/\w'.cell? ⟨z,B+k*8+3,none⟩=some (.int .i64 s.els)/\w'.cell? ⟨z,B+k*8+4,none⟩=some (.int .i64 s.fall)/\w'.cell? ⟨z,B+k*8+5,none⟩=some (.bool false)/\w'.cell? ⟨z,B+k*8+6,none⟩=some (.bool s.bad)/\w'.cell? ⟨z,B+k*8+7,none⟩=some (.string s.give)):=fun w' K=>⟨(K.cell tz).trans b9,(K.cell tz).trans c1,(K.cell Y).trans t0,(K.cell Y).trans t1,(K.cell Y).trans t2,(K.cell Y).trans t3,(K.cell Y).trans t4,(K.cell Y).trans t5,(K.cell Y).trans t6,(K.cell Y).trans t7⟩
 obtain⟨q1,g4⟩:=yM j2;have⟨l0,HB,HI,c2,l1⟩:=dX g4 D hi b7 b8;have⟨l2,HW,l3⟩:=bA f8 hw hs;have q2:=D.kw.size;have q3:(k:Int)<(t.steps.length:Int):=by omega
 have q4:=D.len j4;clear D hi hT g0 g1 M b7 b8 g2 b9 c1 t0 t1 t2 t3 t4 t5 t6 t7 g4 f8 hw b6 hs;go_enter func179,ntmps179
 go_upto_region 1 with fail
 refine aR 13 g3.o fun J T q=>?_
 refine af 0 q ?_;refine af 4 q ?_;refine af 8 q ?_;refine ay 12 (fun K y=>?_);go_simp
 have K2:K_ J (J.alloc (.cells #[.slice none 0 0,.int .i64 0,.slice none 0 0,.int .i64 0,.int .i64 0,.bool false,.bool false,.string ⟨#[]⟩] 172)):=ak _ _;have F:aL (J.alloc (.cells #[.slice none 0 0,.int .i64 0,.slice none 0 0,.int .i64 0,.int .i64 0,.bool false,.bool false,.string ⟨#[]⟩] 172)) J.heap.size 172 8:=aL.made J _ _;have KE:=T.trans K2;have nz:=T.size;obtain⟨v,g5⟩:=ag J.heap.size;refine y.out _ _ (fun _=>g3.o _ KE) ?_;clear y K q;rw[<-g5] at F nz⊢;generalize l4:J.alloc (.cells #[.slice none 0 0,.int .i64 0,.slice none 0 0,.int .i64 0,.int .i64 0,.bool false,.bool false,.string ⟨#[]⟩] 172)=wE at F KE⊢;clear l4 K2 g5;try simp only[Act.put,upA,upB,upC]
 obtain⟨⟨_,v0⟩,l5⟩:=F.row.at (i:=0) (by omega);obtain⟨⟨_,v1⟩,f1⟩:=F.row.at (i:=1) (by omega);obtain⟨⟨_,v2⟩,f2⟩:=F.row.at (i:=2) (by omega);obtain⟨⟨_,v3⟩,l6⟩:=F.row.at (i:=3) (by omega);obtain⟨⟨_,v4⟩,f4⟩:=F.row.at (i:=4) (by omega);obtain⟨⟨_,v5⟩,f5⟩:=F.row.at (i:=5) (by omega);obtain⟨⟨_,v6⟩,g6⟩:=F.row.at (i:=6) (by omega);obtain⟨⟨_,v7⟩,f7⟩:=F.row.at (i:=7) (by omega);have vz:=F.lt;refine ay 13 (fun K y=>?_);go_simp
 refine y.out _ _ (fun L=>Qi rfl L) ?_;clear y K;try simp only[Act.put,upA,upB,upC]
 refine az ?_;have P:=Kz (OY wE v 0 [.slice I s.asks.length H,.int .i64 s.on,.slice N s.cases.length O,.int .i64 s.els,.int .i64 s.fall,.bool false,.bool s.bad,.string s.give] (F.row.there (o:=0) (m:=8) (OU _)));have Z:=Kz (bG (g:=v) nz [.slice I s.asks.length H,.int .i64 s.on,.slice N s.cases.length O,.int .i64 s.els,.int .i64 s.fall,.bool false,.bool s.bad,.string s.give] 0 KE);have g7:=Kz (aL.sets [.slice I s.asks.length H,.int .i64 s.on,.slice N s.cases.length O,.int .i64 s.els,.int .i64 s.fall,.bool false,.bool s.bad,.string s.give] 0 F);obtain⟨U,c3⟩:=ag (wE.setCells v 0 [.slice I s.asks.length H,.int .i64 s.on,.slice N s.cases.length O,.int .i64 s.els,.int .i64 s.fall,.bool false,.bool s.bad,.string s.give]);rw[<-c3] at P Z g7;go_upto_region 2 with fail
 have g8:((((((((wE.setCell ⟨v,0,none⟩ (.slice I s.asks.length H)).setCell ⟨v,1,none⟩ (.int .i64 s.on)).setCell ⟨v,2,none⟩ (.slice N s.cases.length O)).setCell ⟨v,3,none⟩ (.int .i64 s.els)).setCell ⟨v,4,none⟩ (.int .i64 s.fall)).setCell ⟨v,5,none⟩ (.bool false)).setCell ⟨v,6,none⟩ (.bool s.bad)).setCell ⟨v,7,none⟩ (.string s.give))=U:=by rw[c3];rfl
 rw[g8];clear g8 c3 v0 v1 v2 v3 v4 v5 v6 v7 l5 f1 f2 l6 f4 f5 g6 f7 vz F KE nz T;have c4:=Kz (HB.o.kept Z.o);have q0:U.cell? ⟨v,0,none⟩=some (.slice I s.asks.length H):=P.o 0 _ rfl;have V:=g7.o.lt;have g9:Hid (∀w',K_ U w'->w'.cell? ⟨v,0,none⟩=some (.slice I s.asks.length H)/\w'.cell? ⟨v,1,none⟩=some (.int .i64 s.on)/\w'.cell? ⟨v,2,none⟩=some (.slice N s.cases.length O)/\w'.cell? ⟨v,3,none⟩=some (.int .i64 s.els)/\w'.cell? ⟨v,4,none⟩=some (.int .i64 s.fall)/\w'.cell? ⟨v,5,none⟩=some (.bool false)/\w'.cell? ⟨v,6,none⟩=some (.bool s.bad)/\w'.cell? ⟨v,7,none⟩=some (.string s.give)):=fun w' K=>⟨(K.cell V).trans (P.o 0 _ rfl),(K.cell V).trans (P.o 1 _ rfl),(K.cell V).trans (P.o 2 _ rfl),(K.cell V).trans (P.o 3 _ rfl),(K.cell V).trans (P.o 4 _ rfl),(K.cell V).trans (P.o 5 _ rfl),(K.cell V).trans (P.o 6 _ rfl),(K.cell V).trans (P.o 7 _ rfl)⟩
 go_wp2
 go_loopg [6,27] s.asks.length (fun gg x6 l7 wr=>∃(n:Nat) (W:Qx) (cv:Nat),x6= .slice W n cv/\l7= .int .i64 (n:Int)/\n+gg=s.asks.length/\K_ U wr/\Hid (wr.ownsRow U.heap.size 112 2 (.slice W n cv) n (dx (h.take n))))
 case atStart=>exact⟨0,none,0,rfl,rfl,by omega,K_.refl _,PU _ _ _ _⟩
 case round=>
  obtain⟨n,W,cv,rfl,rfl,q5,Kr,HO⟩:=hrel;by_cases q6:(n:Int)<(s.asks.length:Int)
  ·have b0:n<s.asks.length:=by omega
   obtain⟨a2,a0⟩:=ag (s.asks.getD n ByteArray.empty);obtain⟨x,hx⟩:=ag (h.getD n Xz.zero);have a1:=l0.o n b0;rw[<-a0,<-hx] at a1;obtain⟨b,o,rfl,c5,a3⟩:=c2.o n b0;rw[<-a0] at a3;have l8:=HB.o.kw.trans (Z.o.trans Kr);have c0:wr.cell? ⟨b,o+n,none⟩=some (.string a2):=(l8.cell c5).trans a3;have q7:a2.size<=20:=by rw[a0];simp only[List.getD,OZ b0,Ql];exact f9 _ (Pf b0)
   have l9:Hid (h.take (n+1)=h.take n++ [x]):=by
    show _=_;rw[Pb (by omega),hx];simp[List.getD,(by omega:n<h.length)]
   have c6:Hid ((∃t∈ts,t.r.name=a2)\/Kk Kq a2=none):=by
    cases hA:Kk Kq a2 with
    | none=>exact .inr rfl
    | some A=>
     refine .inl ?_;unfold bE at a1;rw[hA] at a1;simp only at a1;cases he:Qq (Qj ts) a2 with
     | none=>rw[he] at a1;cases a1
     | some r=>
      obtain⟨h1,h2⟩:=bN he;obtain⟨u,hu,rfl⟩:=Pv.1 h1;exact⟨u,hu,h2⟩
   have m0:=Kz a1;clear a0 hx a1 a3;go_wp2_with fail
   refine (ow (c4.o.kept Kr) a2 (by omega) (by omega) c6.o).mono ?_;rintro e w4 ⟨⟨fa,tx,ok,rfl,a7⟩,h0⟩;rw[m0.o] at a7;cases ok
   ·simp at a7
   simp only[if_true,PN] at a7;have K4:=Kr.trans h0;have m1:=Kz (ai HO.o h0);have HX:Hid (x= ⟨fa,tx⟩):=a7;clear a7 c0;obtain⟨W5,b1⟩:=ag ((w4.alloc (.cells #[.bool fa,.string tx] 112)).alloc (.cells #[.bool fa,.string tx] 112));have K5:K_ w4 W5:=by rw[b1];exact (ak _ _).alloc _
   have h3:=Kz (ai m1.o K5);have KK:=Kz (K4.trans K5);have m2:U.heap.size<=W5.heap.size:=KK.out.size;have m3:Hid (∀j u,([.bool fa,.string tx]:List QA)[j]? =some u->W5.cell? ((⟨w4.heap.size+1,0,none⟩:Addr).add j)=some u):=fun j u hu=>by
    rw[PQ,b1];have:=X_ (w4.alloc (.cells #[.bool fa,.string tx] 112)) #[.bool fa,.string tx] 112 j u hu;rw[PL] at this;exact this
   have m4:Hid (∀u∈([.bool fa,.string tx]:List QA),u.oneCell'=true):=fun u hu=>by simp only[PS,PT,or_false] at hu;rcases hu with rfl | rfl <;> rfl
   have q8:n<=5:=by omega
   have m5:=Kz b1;clear b1;go_wp2_with (at_builtin;rw[<-m5.o];refine wpList_append_own _ rfl (.tmp 37) (.tmp 39) 216 rfl U.heap.size 112 ia _ 2 24 underlying216 j8 j9 k0 k1 rfl (by decide) (.slice W n cv) n (dx (h.take n)) rfl h3.o ⟨w4.heap.size+1,0,none⟩ 1 1 [.bool fa,.string tx] rfl rfl m3.o m4.o (by unfold maxLen;omega) (by omega) m2 ?_;intro v' E c7 h4 _;have KP:=aC KK.out (OU _) h3.o h4;have HP:=Kz c7;obtain⟨m6,m7,rfl⟩:=aG c7;clear c7 h4)
   go_roundg (gk-1)
   case measure=>omega
   case rel=>exact⟨n+1,m6,m7,rfl,by go_num,by omega,KP,Kz (by rw[l9.o,pG,HX.o];exact HP.o)⟩
  ·have h5:h.length=n:=by omega
   have b2:=Kz h5;have hO:=HO.o;rw[PG (by omega)] at hO;obtain⟨a9,m8,e9,_,a8⟩:=jY hO;simp only[PO] at e9;obtain⟨rfl,m9,rfl⟩:=e9;clear m9;have⟨q9,h6⟩:=aD a8 a8.answers;obtain⟨u0,u1,u2,u3,u4,u5,u6,u7⟩:=g9.o wr Kr;have r0:=OV V Kr.size;clear hO a8 q0 h5;go_wp2_with fail
   refine (yE wr s I N H O).mono ?_;rintro e w5 ⟨rfl,k5⟩;have K5:=Kr.trans k5;clear u0 u1 u2 u3 u4 u5 u6 u7;go_wp2_with fail
   have c8:=FJ w5 s f3 I N W H O cv h hF (c2.o.kept (HB.o.kw.trans (Z.o.trans K5))) (l1.o.kept (HB.o.kw.trans (Z.o.trans K5))) (by unfold maxLen;omega) (fun c hc=>by have:=f6 c hc;unfold maxLen;omega) (h6.o.kept k5) j3 (fun C hq=>by simp only[List.getD,List.getElem?_eq_getElem hq,Option.getD_some];exact f9 _ (List.getElem_mem hq));rw[b2.o] at c8;refine c8.mono ?_;rintro e E ⟨⟨g,rfl,c9⟩,k6⟩;have h7:fq s h=g:=l2.o.unique c9;have⟨h8,n0⟩:=aD h7 c9;dsimp only[bW.cells];have K6:=K5.trans k6;clear c8 c9 h7;obtain⟨X,a4⟩:=ag (E.alloc (.cells #[.int .i64 g.code,.bool g.over,.int .i64 g.at',.string g.text] 244));have h9:K_ E X:=by rw[a4];exact ak _ _
   have p1:X.cell? ⟨E.heap.size,1,none⟩=some (.bool g.over):=by rw[a4];exact X_ E #[.int .i64 g.code,.bool g.over,.int .i64 g.at',.string g.text] 244 1 _ rfl
   have n1:X.cell? ⟨E.heap.size,2,none⟩=some (.int .i64 g.at'):=by rw[a4];exact X_ E #[.int .i64 g.code,.bool g.over,.int .i64 g.at',.string g.text] 244 2 _ rfl
   have p3:X.cell? ⟨E.heap.size,3,none⟩=some (.string g.text):=by rw[a4];exact X_ E #[.int .i64 g.code,.bool g.over,.int .i64 g.at',.string g.text] 244 3 _ rfl
   have i0:E.heap.size<X.heap.size:=by rw[a4];simp
   go_upto_region 10 with fail
   rw[<-a4];clear a4;have K7:=K6.trans h9;have i1:K_ wr X:=(k5.trans k6).trans h9;have c6:=h6;have n2:Hid (∀(d0:QA) (b:Nat),b<U.heap.size->eP (X.setCell ⟨b,4,none⟩ d0) W h):=fun d0 b hb=>by
    have h1:=ai HO.o i1;rw[PG (by have:=b2.o;omega)] at h1;obtain⟨a9,m8,e9,_,a8⟩:=jY (bV h1 (p:=⟨b,4,none⟩) hb d0);simp only[PO] at e9;rw[e9.1];exact a8.answers
   cases Q:g.over
   ·rw[Q] at p1;have d1:=c4.o.kept K7;have d2:=d1.at HI.o;obtain⟨⟨_,x4⟩,f4⟩:=d2.row.row.at (i:=4) (by omega);have n3:=d2.row.lt;have b3:=Kz (d1.store (t':={t with r:={t.r with at':=g.at'}}) HI.o (o:=4) (v:= .int .i64 g.at') (by omega) rfl rfl rfl rfl rfl rfl rfl rfl rfl rfl);clear d1 d2;go_upto_region 15 with fail
    obtain⟨w8,d3⟩:=ag (X.setCell ⟨t.tb,4,none⟩ (.int .i64 g.at'));have n4:t.tb<U.heap.size:=OV tz Z.o.size;have n5:Hid (eP w8 W h):=by rw[d3];exact n2.o _ _ n4
    rw[<-d3] at b3⊢;clear d3 x4 f4 n3 p1 n1 p3;have d4:i<ts.length:=(O_.1 HI.o).1;have b4:Hid ((ts.set i {t with r:={t.r with at':=g.at'}})[i]? =some {t with r:={t.r with at':=g.at'}}):=Qe d4;have n6:=Kz (b3.o.at b4.o);obtain⟨ta,tc,n7⟩:=aG n6.o.txt;have r1:=Kz n7;have i2:Hid (∀w',K_ w8 w'->w'.cell? ⟨t.tb,6,none⟩=some (t.tv)):=fun w' K=>((b3.o.kept K).at b4.o).rng 6 _ rfl
    refine aR 12 i2.o fun J T q=>?_
    refine af 0 q ?_;refine ae 4 q ?_;refine ae 5 q ?_;refine ae 6 q ?_;refine ax 7 (fun K y=>?_);go_simp
    go_at_call 197
    have d5:=Aa J W cv h (by omega) (n5.o.kept T);rw[b2.o] at d5;refine d5.mono ?_;rintro e w9 ⟨⟨ga,gc,rfl,i3⟩,k9⟩;have K9:=T.trans k9;have a5:=Kz (b3.o.kept K9);have a6:=Kz (a5.o.at b4.o);have n8:=Kz i3;have d6:=a5.o.kw.size;have r2:(aJ h).length<=5:=by have:=List.length_filter_le (fun x:Xz=>!x.fail) h;unfold aJ;rw[Qc];omega
    refine y.out _ _ (fun _=>i2.o _ K9) ?_;clear y K q d5 i3;try simp only[Act.put,upA,upB,upC]
    refine ax 8 (fun K y=>?_);refine fH (.tmp 73) (.tmp 75) 25 rfl wz.heap.size 9 is _ 16 underlying25 k2 k3 k4 k7 rfl t.tv t.r.texts.length (t.r.texts.map Value.string) rfl a6.o.txt ga gc (aJ h) rfl n8.o (by unfold maxLen;omega) (by omega) d6 ?_;intro v' wA d7 d8 i4;obtain⟨va,vc,rfl⟩:=aG d7;have n9:=Kz (a5.o.texts (l:=aJ h) b4.o d7 d8 i4);have d9:wA.heap[t.tb]? =w9.heap[t.tb]? :=d8.block _ a6.o.row.lt (fun e=>aA a6.o.row.type (Y_ a6.o.txt e.symm) (by decide) rfl);have e0:aL wA t.tb 153 12:=a6.o.row.block d9;have i5:Hid (wA.cell? ⟨t.tb,6,none⟩=some t.tv):=(Pi (w:=w9) d9).trans (a6.o.rng 6 _ rfl);obtain⟨⟨_,x6⟩,g6⟩:=e0.row.at (i:=6) (by omega);have r3:=e0.lt;refine y.out _ _ (fun _=>i5.o) ?_;clear y K d7 d8 i4 d9 e0;have q:=i5.o;try simp only[Act.put,upA,upB,upC]
    refine ae 9 q ?_;refine ae 10 q ?_;refine ae 11 q ?_;refine ay 12 (fun K y=>?_);go_simp
    refine y.out _ _ (fun L=>Qi rfl L) ?_;clear y K q;try simp only[Act.put,upA,upB,upC]
    refine az ?_;have e1:=n9.o;rw[List.set_set] at e1;have o0:=Kz e1;clear e1;go_wp2
    go_ret
    rw[h8.o];exact .inr ⟨Q,rfl,.slice va (t.r.texts.length+ (aJ h).length) vc,o0.o⟩
   ·rw[Q] at p1;obtain⟨C,o1,e2,i6,i7⟩:∃C,C<h.length/\iI (h.getD C Xz.zero)/\mO h iI C/\g.text=kK s C:=by
     rcases n0.o with⟨_,e⟩|⟨_,⟨C,h1,h2,e3,⟨_,e⟩|⟨_,e⟩⟩|⟨_,r,_,e⟩⟩
     ·rw[e] at Q;cases Q
     ·exact⟨C,h1,h2,e3,by rw[e]⟩
     ·rw[e] at Q;cases Q
     ·rw[e] at Q;cases Q
    have e4:C<s.asks.length:=by omega
    obtain⟨b,o,rfl,c5,a3⟩:=c2.o C e4;obtain⟨R,b5⟩:=ag (s.asks.getD C ByteArray.empty);rw[<-b5] at a3;have o2:Hid (R∈(stepOf ⟨t.cost,t.steps⟩ t.r.at').asks/\g.text= (⟨#[98,101,108,111,119,32]⟩:Qw)++R):=by
     refine⟨?_,by rw[i7,b5];rfl⟩;rw[<-l3.o,b5];simp only[List.getD,OZ e4,Ql];exact Pf e4
    have e5:Hid (∀w',K_ X w'->w'.cell? ⟨v,0,none⟩=some (.slice (some ⟨b,o,none⟩) s.asks.length H)/\w'.cell? ⟨b,o+C,none⟩=some (.string R)):=fun w' K=>⟨(g9.o w' (K7.trans K)).1,((HB.o.kw.trans (Z.o.trans (K7.trans K))).cell c5).trans a3⟩
    have o3:Hid (∀r,BN h iI r->r= (C:Int)):=fun r hr=>by
     rcases hr with⟨j,hj,rfl,hp,a0⟩|⟨_,a0⟩
     ·rcases Qf j C with L|L|L
      ·exact Qi hp (i6 j L)
      ·rw[L]
      ·exact Qi e2 (a0 C L)
     ·exact Qi e2 (a0 C o1)
    have r4:(C:Int)<(s.asks.length:Int):=by omega
    clear a3 b5 e2 i6 i7;go_upto_region 11 with fail
    refine aR 9 e5.o fun J T q=>?_
    refine af 0 q ?_;refine ax 4 (fun K y=>?_);go_simp
    go_at_call 195
    have e6:=Ak J W cv h (by unfold maxLen;omega) (fun c hc=>by have:=f6 c hc;unfold maxLen;omega) (c6.o.kept (i1.trans T));rw[b2.o] at e6;refine e6.mono ?_;rintro e w8 ⟨⟨o4,rfl,i8⟩,o5⟩;obtain rfl:=o3.o o4 i8;have K8:=T.trans o5;refine y.out _ _ (fun _=>e5.o _ K8) ?_;clear y K q i8 e6;have q:=e5.o _ K8;try simp only[Act.put,upA,upB,upC]
    refine af 5 q ?_;have e7:=c4.o.kept (K7.trans K8);have e8:=e7.at HI.o;obtain⟨⟨_,o6⟩,o7⟩:=e8.row.row.at (i:=11) (by omega);have o8:=e8.row.lt;have a5:=Kz (e7.store (t':={t with bl:=R}) HI.o (o:=11) (v:= .string R) (by omega) rfl rfl rfl rfl rfl rfl rfl rfl rfl rfl);have p3:=(K8.cell (b:=E.heap.size) (o:=3) i0).trans p3;have i9:E.heap.size<w8.heap.size:=OV i0 K8.size;have o9:E.heap.size≠t.tb:=by have:=(HB.o.at HI.o).row.lt;have r5:=(Z.o.trans K6).size;omega
    clear e7 e8;refine ay 9 (fun K y=>?_);go_simp
    refine y.out _ _ (fun L=>Qi rfl L) ?_;clear y K q;try simp only[Act.put,upA,upB,upC]
    refine az ?_;have d4:i<ts.length:=(O_.1 HI.o).1;have p0:(w8.setCell ⟨t.tb,11,none⟩ (.string R)).cell? ⟨E.heap.size,3,none⟩=some (.string g.text):=by rw[Zj o9];exact p3
    have d6:E.heap.size<(w8.setCell ⟨t.tb,11,none⟩ (.string R)).heap.size:=by rw[size_setCell];exact i9
    obtain⟨w9,j0⟩:=ag (w8.setCell ⟨t.tb,11,none⟩ (.string R));rw[<-j0] at a5 p0 d6⊢;clear j0 p3 o6 o7 o8 i9;go_wp2_with fail
    refine (nY a5.o (i:=i) (t:={t with bl:=R}) (Qe d4) true g.text j5 j6 (fun b hb=>?_) j7).mono ?_
    ·obtain⟨j,u,j1,p2,e3,p4,p5⟩:=HW.o b hb;exact⟨j,u,by rw[Pp (Ne.symm j1),Pp (Ne.symm j1)];exact p2,e3,p4,p5⟩
    rintro e wF ⟨rfl,f0⟩;rw[List.set_set] at f0;have p6:=Kz f0;clear f0;go_wp2
    go_ret
    rw[h8.o];exact .inl ⟨Q,rfl,R,o2.o,p6.o⟩
end
variable {ts : List Zk} {i : Nat} {t : Zk}
theorem wJ{t':Zk}(hi:ts[i]? =some t)(d:(ts.map (·.tb)).Nodup):∀u∈ts.set i t',u=t'\/(u∈ts/\u.tb≠t.tb):=fun u f=>by
 obtain⟨b,rfl⟩:=O_.1 hi;obtain⟨j,a,rfl⟩:=Ph f;rw[Qd] at a;rw[Qv]
 split
 ·exact .inl rfl
 ·rename_i hne
  refine .inr ⟨Pf a,fun e=>?_⟩;have c:=Pg.1 d;rcases Nat.lt_or_gt_of_ne hne with g | g
  ·have:=c i j (by simpa using b) (by simpa using a) g;simp at this;exact this e.symm
  ·have:=c j i (by simpa using a) (by simpa using b) g;simp at this;exact this e
theorem Ch{t':Zk}(hi:ts[i]? =some t):t'∈ts.set i t'/\∀u∈ts,u.tb≠t.tb->u∈ts.set i t':=by
 obtain⟨a,rfl⟩:=O_.1 hi;refine⟨List.mem_iff_getElem.2 ⟨i,by rw[Qd];exact a,by simp⟩,fun u b c=>?_⟩;obtain⟨j,e,rfl⟩:=Ph b;refine List.mem_iff_getElem.2 ⟨j,by rw[Qd];exact e, ?_⟩;rw[Qv,Qh (fun f=>c (by subst f;rfl))]
variable {l : List Nat}
theorem Dq{u:Zk}:u∈iZ ts l↔∃v∈ts,u=if v.tb∈l then {v with op:=v.op-1} else v:=by
 unfold iZ;rw[Pv];constructor
 ·rintro⟨v,a,b⟩;exact⟨v,a,b.symm⟩
 ·rintro⟨v,a,b⟩;exact⟨v,a,b.symm⟩
theorem Nv{v:Zk}:(if v.tb∈l then {v with op:=v.op-1} else v:Zk).bl=v.bl:=by
 by_cases h:v.tb∈l
 ·rw[Qg h]
 ·rw[Qh h]
theorem Nu{v:Zk}:(if v.tb∈l then {v with op:=v.op-1} else v:Zk).qs=v.qs:=by
 by_cases h:v.tb∈l
 ·rw[Qg h]
 ·rw[Qh h]
theorem jT{v:Zk}:(if v.tb∈l then {v with op:=v.op-1} else v:Zk).tb=v.tb/\(if v.tb∈l then {v with op:=v.op-1} else v:Zk).r=v.r:=by
 by_cases h:v.tb∈l
 ·rw[Qg h];exact⟨rfl,rfl⟩
 ·rw[Qh h];exact⟨rfl,rfl⟩
theorem KT(ts:List Zk)(l:List Nat):Qj (iZ ts l)=Qj ts:=by
 unfold Qj iZ;rw[List.map_map]
 congr 1
 funext v
 exact jT.2
theorem Cs{l:List Q_}{r a:Q_}(p:dB l)(hi:l[i]? =some r)(c:a.name=r.name)(m:Qw):Qq (l.set i a) m=if m=r.name then some a else Qq l m:=by
 obtain⟨g,rfl⟩:=O_.1 hi;have k:=B_ p g c;have q:a∈l.set i a:=List.mem_iff_getElem.2 ⟨i,by rw[Qd];exact g,by simp⟩;by_cases e:m=l[i].name
 ·rw[Qg e];have:=bU k q;rw[c,<-e] at this;exact this
 ·rw[Qh e];cases h:Qq l m with
  | some x=>
   obtain⟨s,n⟩:=bN h;obtain⟨j,b,rfl⟩:=Ph s;have t:i≠j:=fun d=>e (by subst d;exact n.symm)
   have f:l[j]∈l.set i a:=List.mem_iff_getElem.2 ⟨j,by rw[Qd];exact b,by rw[Qv,Qh t]⟩;have:=bU k f;rw[n] at this;exact this
  | none=>
   unfold Qq at h⊢;rw[List.find?_eq_none] at h⊢;intro x f;obtain⟨j,b,rfl⟩:=Ph f;rw[Qd] at b;rw[Qv]
   split
   ·rw[c];simpa using fun d=>e d.symm
   ·exact h _ (Pf b)
theorem zP{l:List Qw}{n:Qw}(h:l.Nodup):(l.filter fun a=>!decide (a=n)).length=if fK l n=true then l.length-1 else l.length:=by
 induction l with
 | nil=>simp[fK]
 | cons x l b=>
  rw[List.nodup_cons] at h;have b:=b h.2;by_cases e:x=n
  ·subst e;have c:¬fK l x=true:=fun g=>h.1 (dV.1 g)
   rw[Qh c] at b;rw[Qg (dV.2 (by simp))];simp[b]
  ·have d:fK (x :: l) n=fK l n:=by simp[fK,e]
   rw[d];simp only[List.filter_cons,e,decide_false,Bool.not_false,if_true,PP];rw[b];by_cases g:fK l n=true
   ·rw[Qg g,Qg g];have:0<l.length:=List.length_pos_of_mem (dV.1 g);omega
   ·rw[Qh g,Qh g]
variable {ws : Qw -> List Nat} {Kq : List Qz}
theorem BS.self(h:BS Kq ts ws)(b:t∈ts)(d:bL (Kk Kq) (Qq (Qj ts)) t.r):t.op=0/\pend (Kk Kq) (Qq (Qj ts)) t.r=[]/\∀s,t.tb∉ws s:=by
 have e:=h.good.good t.r (PV b);obtain⟨A,f,_⟩:=e.act;have c:=((AC (by rw[f];rfl)).1 d).2;refine⟨by rw[h.op t b,c];rfl,c,fun s g=>?_⟩;have:=(h.wt s t b).1 g;rw[c] at this;cases this
theorem BS.ended(D:a_ (Kk Kq))(h:BS Kq ts ws)(M:(ts.map (·.tb)).Nodup){t':Zk}(hi:ts[i]? =some t)(f:bL (Kk Kq) (Qq (Qj ts)) t.r)(j:t'.r= (Xx (Kk Kq) (Qq (Qj ts)) t.r).1)(E:t'.r.over=true)(F:(Xx (Kk Kq) (Qq (Qj ts)) t.r).2=[])(G:t'.tb=t.tb)(N:t'.op=t.op)(O:Cq (Kk Kq) t'.r t'.bl)(P:t'.qs=t.qs):
  BS Kq (iZ (ts.set i t') (ws t.r.name)) (fun n=>if n=t.r.name then [] else ws n)/\Qq (Qj (iZ (ts.set i t') (ws t.r.name)))=doX (Kk Kq) (Qq (Qj ts)) t.r.name:=by
 have l:t∈ts:=Pj hi;obtain⟨Q,Y,w⟩:=h.self l f;have y:(Qj ts)[i]? =some t.r:=by unfold Qj;rw[List.getElem?_map,hi];rfl
 have R:i<ts.length:=(O_.1 hi).1;have H:t'.r.name=t.r.name:=by rw[j,fe]
 have I:Qj (iZ (ts.set i t') (ws t.r.name))= (Qj ts).set i t'.r:=by rw[KT,qg R]
 have p:Qq (Qj ts) t.r.name=some t.r:=bU h.good.asc (PV l);have z:Qq (Qj (iZ (ts.set i t') (ws t.r.name)))=doX (Kk Kq) (Qq (Qj ts)) t.r.name:=by
  funext m
  rw[I,Cs h.good.asc y H,jw p,j];by_cases e:m=t.r.name
  ·rw[Qg e,Qg e]
  ·rw[Qh e,Qh e];cases Qq (Qj ts) m with
   | some x=>rfl
   | none=>
    simp only;rw[Qh (by rw[F];simp[fK])]
 have J:=h.good.good t.r (PV l);have S:(Kk Kq t.r.name).isSome=true:=by obtain⟨T,A,_⟩:=J.act;rw[A];rfl
 have K:∀x:Q_,pend (Kk Kq) (Qq (Qj (iZ (ts.set i t') (ws t.r.name)))) x= (pend (Kk Kq) (Qq (Qj ts)) x).filter (fun a=>!decide (a=t.r.name)):=fun x=>by
  rw[z,Hr p f.1 S,<-j,Qg E]
 have L:∀σ,pend (Kk Kq) σ t'.r=[]:=fun σ=>by unfold pend;rw[Qg (.inl E)]
 have U:∀u∈ts,(pend (Kk Kq) (Qq (Qj ts)) u.r).Nodup:=fun u d=>by
  obtain⟨T,A,V,B⟩:=(h.good.good u.r (PV d)).act;exact Fg D A V B
 have k:∀u∈iZ (ts.set i t') (ws t.r.name),u=t'\/∃v∈ts,v.tb≠t.tb/\u=if v.tb∈ws t.r.name then {v with op:=v.op-1} else v:=fun u d=>by
  obtain⟨v,c,rfl⟩:=Dq.1 d;rcases wJ hi M v c with rfl|⟨B,C⟩
  ·left
   rw[Qh (by rw[G];exact w _)]
  ·exact .inr ⟨v,B,C,rfl⟩
 refine⟨⟨⟨by rw[I];exact B_ h.good.asc (O_.1 y).1 (H.trans (congrArg Q_.name (O_.1 y).2).symm),fun x W=>?_⟩,fun u d=>?_,fun s u d=>?_,fun s=>?_,fun s b q=>?_,fun u d=>?_,fun u d=>?_⟩,z⟩
 rotate_right
 ·rw[z];rcases k u d with rfl|⟨v,c,_,rfl⟩
  ·have:=(h.qs t l).unit f;rw[F,List.map_nil,List.append_nil,<-j,<-P] at this;exact this.mono ⟨t.r,p,f⟩
  ·rw[jT.2,Nu];exact (h.qs v c).mono ⟨t.r,p,f⟩
 rotate_right
 ·rcases k u d with rfl|⟨v,c,_,rfl⟩
  ·exact O
  ·rw[jT.2,Nv];exact h.bl v c
 ·obtain⟨u,d,rfl⟩:=Pv.1 W;rcases k u d with rfl|⟨v,c,_,rfl⟩
  ·rw[j];exact fM D h.good.env J f
  ·rw[jT.2];exact h.good.good v.r (PV c)
 ·rcases k u d with rfl|⟨v,c,X,rfl⟩
  ·rw[L,N,Q];rfl
  ·rw[jT.2,K,zP (U v c)];by_cases g:v.tb∈ws t.r.name
   ·rw[Qg g,Qg (dV.2 ((h.wt _ v c).1 g))];show v.op-1=_;rw[h.op v c]
   ·rw[Qh g,Qh (fun C=>g ((h.wt _ v c).2 (dV.1 C)))];exact h.op v c
 ·rcases k u d with rfl|⟨v,c,X,rfl⟩
  ·rw[L];simp only[PT,iff_false];intro g
   split at g
   ·cases g
   ·rw[G] at g;exact w _ g
  ·rw[jT.1,jT.2,K,List.mem_filter];by_cases e:s=t.r.name
   ·simp[e]
   ·simp only[e,if_false];rw[h.wt s v c];simp
 ·by_cases e:s=t.r.name
  ·rw[Qg e];exact List.nodup_nil
  ·rw[Qh e];exact h.wn s
 ·split at q
  ·cases q
  ·obtain⟨v,c,e⟩:=h.ww s b q;by_cases g:v.tb=t.tb
   ·exact Qi q (by rw[<-e,g];exact w s)
   ·exact⟨_,Dq.2 ⟨v,(Ch hi).2 v c g,rfl⟩,by rw[jT.1];exact e⟩
theorem ru(d:(ts.map (·.tb)).Nodup){u v:Zk}(f:u∈ts)(h:v∈ts)(e:u.tb=v.tb):u=v:=by
 obtain⟨i,a,rfl⟩:=Ph f;obtain⟨j,b,rfl⟩:=Ph h;have c:=Pg.1 d;rcases Qf i j with g|g|g
 ·have:=c i j (by simpa using a) (by simpa using b) g;simp at this;exact Qi e this
 ·subst g;rfl
 ·have:=c j i (by simpa using b) (by simpa using a) g;simp at this;exact Qi e.symm this
variable {ts' : List Zk}
theorem IZ(h:(ts'.map fun t=>(t.tb,t.r,t.op,t.bq))= (ts.map fun t=>(t.tb,t.r,t.op,t.bq))):(∀u∈ts',∃v∈ts,v.tb=u.tb/\v.r=u.r/\v.op=u.op/\v.bq=u.bq)/\(∀v∈ts,∃u∈ts',u.tb=v.tb/\u.r=v.r/\u.op=v.op/\u.bq=v.bq):=by
 constructor
 ·intro u b;have:(u.tb,u.r,u.op,u.bq)∈ts'.map fun t=>(t.tb,t.r,t.op,t.bq):=Pv.2 ⟨u,b,rfl⟩
  rw[h] at this;obtain⟨v,c,e⟩:=Pv.1 this;simp only[Prod.mk.injEq] at e;exact⟨v,c,e.1,e.2.1,e.2.2.1,e.2.2.2⟩
 ·intro v c;have:(v.tb,v.r,v.op,v.bq)∈ts.map fun t=>(t.tb,t.r,t.op,t.bq):=Pv.2 ⟨v,c,rfl⟩
  rw[<-h] at this;obtain⟨u,b,e⟩:=Pv.1 this;simp only[Prod.mk.injEq] at e;exact⟨u,b,e.1,e.2.1,e.2.2.1,e.2.2.2⟩
theorem EW(h:(ts'.map fun t=>(t.tb,t.r,t.op,t.bq))= (ts.map fun t=>(t.tb,t.r,t.op,t.bq))):Qj ts'=Qj ts:=by
 have:=congrArg (List.map fun p:Nat×Q_×Nat×Qw×List QA=>p.2.1) h;rw[List.map_map,List.map_map] at this;exact this
theorem BS.asked(a0:a_ (Kk Kq)){ts0:List Zk}{Q:Qw->List Nat}(j:BS Kq ts ws)(R:(ts.map (·.tb)).Nodup){t1:Zk}(hi:ts[i]? =some t)(x:bL (Kk Kq) (Qq (Qj ts)) t.r)(F:t1.r= (Xx (Kk Kq) (Qq (Qj ts)) t.r).1)(S:t1.r.over=false)(hv:t1.r.Zq≠0)(a1:t1.tb=t.tb)(T:t1.op=t.op/\t1.bl=t.bl/\t1.qs=t.qs++ (Xx (Kk Kq) (Qq (Qj ts)) t.r).2.map Value.string)
 (a2:(ts0.map fun t=>(t.tb,t.r,t.op,t.bq))= ((ts.set i t1).map fun t=>(t.tb,t.r,t.op,t.bq))) (a3:dB (Qj ts')) (C:(ts'.map (·.tb)).Nodup) {A:fA} (hA:Kk Kq t.r.name=some A) (a8:(Xx (Kk Kq) (Qq (Qj ts)) t.r).2= (stepOf A t1.r.at').asks) (m:pI Kq ts0 ws t.tb (Xx (Kk Kq) (Qq (Qj ts)) t.r).2 (Xx (Kk Kq) (Qq (Qj ts)) t.r).2 ts' Q):
  BS Kq ts' Q/\Qq (Qj ts')=doX (Kk Kq) (Qq (Qj ts)) t.r.name:=by
 have G:t∈ts:=Pj hi;obtain⟨h1,h2,U⟩:=j.self G x;have a9:(Qj ts)[i]? =some t.r:=by unfold Qj;rw[List.getElem?_map,hi];rfl
 have b0:i<ts.length:=(O_.1 hi).1;have a4:t1.r.name=t.r.name:=by rw[F,fe]
 have b1:Qj ts0= (Qj ts).set i t1.r:=by rw[EW a2,qg b0]
 have M:Qq (Qj ts) t.r.name=some t.r:=bU j.good.asc (PV G);have a5:∀n,Qq (Qj ts0) n=if n=t.r.name then some t1.r else Qq (Qj ts) n:=fun n=>by rw[b1];exact Cs j.good.asc a9 a4 n
 have V:Qq (Qj ts')=doX (Kk Kq) (Qq (Qj ts)) t.r.name:=by
  funext n
  rw[m.env n,a5,jw M,F];by_cases p:n=t.r.name
  ·rw[Qg p,Qg p]
  ·rw[Qh p,Qh p];cases Qq (Qj ts) n <;> rfl
 have hg:=j.good.good t.r (PV G);have hw:(Kk Kq t.r.name).isSome=true:=by rw[hA];rfl
 have a6:∀H:Q_,pend (Kk Kq) (Qq (Qj ts')) H=pend (Kk Kq) (Qq (Qj ts)) H:=fun H=>by
  rw[V,Hr M x.1 hw,<-F,Qh (by rw[S];simp)]
 have a7:pend (Kk Kq) (Qq (Qj ts')) t1.r=lT Kq ts0 (Xx (Kk Kq) (Qq (Qj ts)) t.r).2:=by
  unfold pend lT;rw[Qh (by rw[S];simp[hv]),a4,hA];simp only;rw[a8]
  congr 1
  funext a
  rw[m.ans a]
 obtain⟨t0,b2,N,D,e1,z,e3,e4,e5⟩:=m.me;obtain⟨W,b3⟩:=IZ a2;have q:N.r=t1.r/\t0.op=0/\N.bl=t.bl/\N.qs=t1.qs:=by
  obtain⟨v,d,e,c,l,O⟩:=W t0 b2;rcases wJ hi R v d with rfl|⟨_,g4⟩
  ·exact⟨by rw[e3,<-c],by rw[<-l,T.1,h1],(congrArg Prod.fst (e5.trans O.symm)).trans T.2.1,congrArg Prod.snd (e5.trans O.symm)⟩
  ·exact Qi (e.trans e1) g4
 have old:∀u∈ts',u.tb≠t.tb->(∃v∈ts,v.tb=u.tb/\v.r=u.r/\v.op=u.op/\v.bq=u.bq)\/(u.r=Q_.fresh u.r.name/\(u.op=0/\u.bq= (⟨#[]⟩,[]))/\Qq (Qj ts) u.r.name=none):=fun u h P=>by
  rcases m.other u h P with⟨u0,I,e,c,l,O⟩|⟨e,c,l⟩
  ·obtain⟨v,d,E,J,X,k5⟩:=W u0 I;rcases wJ hi R v d with rfl|⟨k4,_⟩
   ·exact Qi (e.symm.trans (E.symm.trans a1)) P
   ·exact .inl ⟨v,k4,E.trans e,J.trans c,X.trans l,k5.trans O⟩
  ·refine .inr ⟨e,c, ?_⟩;rw[a5] at l
   split at l
   ·cases l
   ·exact l
 have keep:∀v∈ts,v.tb≠t.tb->∃u∈ts',u.tb=v.tb/\u.r=v.r:=fun v d P=>by
  obtain⟨u0,I,e,c,_⟩:=b3 v ((Ch hi).2 v d P);obtain⟨u,h,E,J⟩:=m.old u0 I;exact⟨u,h,E.trans e,J.trans c⟩
 have Y:∀s b,b∈Q s↔b∈ws s\/(fK (lT Kq ts0 (Xx (Kk Kq) (Qq (Qj ts)) t.r).2) s=true/\b=t.tb):=fun s b=>by
  rw[m.wt s]
  split
  ·rename_i g;simp[g]
  ·rename_i g;simp[g]
 refine⟨⟨⟨a3,fun H K=>?_⟩,fun u h=>?_,fun s u h=>?_,fun s=>?_,fun s b hb=>?_,fun u h=>?_,fun u h=>?_⟩,V⟩
 rotate_right
 ·rw[V];by_cases g:u.tb=t.tb
  ·have:=ru C h D (g.trans z.symm);rw[this,q.1,q.2.2.2,F,T.2.2];exact ((j.qs t G).unit x).mono ⟨t.r,M,x⟩
  ·rcases old u h g with⟨v,d,_,c,_,l⟩|⟨e,c,_⟩
   ·rw[<-c,<-show v.qs=u.qs from congrArg Prod.snd l];exact (j.qs v d).mono ⟨t.r,M,x⟩
   ·exact xu.still (congrArg Prod.snd c.2) e
 rotate_right
 ·by_cases g:u.tb=t.tb
  ·have:=ru C h D (g.trans z.symm);rw[this,q.1,q.2.2.1];exact Cq.still ((j.bl t G).open x.1) S
  ·rcases old u h g with⟨v,d,_,c,_,l⟩|⟨e,c,_⟩
   ·rw[<-c,<-show v.bl=u.bl from congrArg Prod.fst l];exact j.bl v d
   ·exact Cq.still (congrArg Prod.fst c.2) (by rw[e];rfl)
 ·obtain⟨u,h,rfl⟩:=Pv.1 K;by_cases g:u.tb=t.tb
  ·have:=ru C h D (g.trans z.symm);rw[this,q.1,F];exact fM a0 j.good.env hg x
  ·rcases old u h g with⟨v,d,_,c,_⟩|⟨e,_,_⟩
   ·rw[<-c];exact j.good.good v.r (PV d)
   ·have b4:(Kk Kq u.r.name).isSome=true:=by
     have w:=bU a3 K;rw[m.env] at w;rcases m.other u h g with⟨u0,I,E,J,_⟩|⟨_,_,X⟩
     ·obtain⟨v,d,B,L,_⟩:=W u0 I;rcases wJ hi R v d with rfl|⟨m4,_⟩
      ·exact Qi (E.symm.trans (B.symm.trans a1)) g
      ·obtain⟨b5,hB,_⟩:=(j.good.good v.r (PV m4)).act;rw[<-J,<-L,hB];rfl
     ·rw[X] at w;simp only at w
      split at w
      ·rename_i h6;exact h6.2
      ·cases w
    rw[e];exact lM a0 b4
 ·by_cases g:u.tb=t.tb
  ·have:=ru C h D (g.trans z.symm);rw[this,q.1,a7,e4,q.2.1,PD]
  ·rw[a6];rcases old u h g with⟨v,d,_,c,l,_⟩|⟨e,c,_⟩
   ·rw[<-c,<-l];exact j.op v d
   ·rw[e,c.1,nX];rfl
 ·by_cases g:u.tb=t.tb
  ·have:=ru C h D (g.trans z.symm);rw[this,q.1,a7,Y,z,dV];exact⟨fun k=>by rcases k with k | k;exact Qi k (U s);exact k.1,fun k=>.inr ⟨k,rfl⟩⟩
  ·rw[a6,Y];rcases old u h g with⟨v,d,e,c,l⟩|⟨e,c,l⟩
   ·rw[<-e,<-c,<-j.wt s v d];exact⟨fun k=>by rcases k with k | ⟨_,k⟩;exact k;exact Qi (e.symm.trans k) g,.inl⟩
   ·rw[e,nX];simp only[PT,iff_false];rintro (k|⟨_,k⟩)
    ·obtain⟨v,d,B⟩:=j.ww s u.tb k;obtain⟨u2,Z,L,m3⟩:=keep v d (fun p=>g (B.symm.trans p));have:=ru C h Z (B.symm.trans L.symm);have w:=bU j.good.asc (PV (f:=fun t:Zk=>t.r) d);rw[<-m3,<-this,l] at w;cases w
    ·exact g k
 ·rw[m.wt s]
  split
  ·rw[List.nodup_append];exact⟨j.wn s,by simp,fun H K y hy p=>by rw[Pd] at hy;rw[p,hy] at K;exact U s K⟩
  ·exact j.wn s
 ·rcases (Y s b).1 hb with k|⟨_,k⟩
  ·obtain⟨v,d,B⟩:=j.ww s b k;by_cases g:v.tb=t.tb
   ·exact Qi k (by rw[<-B,g];exact U s)
   ·obtain⟨u2,Z,L,_⟩:=keep v d g;exact⟨u2,Z,L.trans B⟩
  ·exact⟨N,D,z.trans k.symm⟩
def jR(wz:Qy):Prop:=∀(W:Qy) (give:Qw) (a:Qx) (cap:Nat) (l:List Qw),K_ wz W->give.size<=maxLen->l.length<=maxLen->Strs W a l->l.length<=cap->Calls prog 180 #[.string give,.slice a l.length cap] W fun e w'=>e= .returned (.string (oO give l))/\K_ W w'
theorem Jb(w:Qy)(tb:Nat)(v:Int)(a:w.cell? ⟨tb,5,none⟩=some (.int .i64 v)):
  Calls prog 118 #[.pointer (some ⟨tb,0,none⟩)] w fun e w'=>Says e (v=20)/\w'=w:=by
 go_enter func118,ntmps118
 go_wp2
 go_ret
 exact⟨by simp[Says],rfl⟩
theorem qI{W:aZ}{σ:Env}{r:Q_}{A:fA}(h:bL W σ r)(d:W r.name=some A)(e:r.Zq≠0):∃b,Yz W σ (stepOf A r.at').asks=some b:=by
 rcases h.2 with h|⟨g,b,c,f⟩
 ·exact Qi h e
 ·rw[d] at c;cases c;exact⟨b,f⟩
variable {Kq : List Qz} {ts : List Zk}
theorem BS.NV{ws:Qw->List Nat}(h:BS Kq ts ws)(s:Qw):(ws s).length<=ts.length:=by
 have b:=List.Nodup.length_le_of_subset (h.wn s) (l₂:=ts.map (·.tb)) (fun c d=>by
  obtain⟨t,f,e⟩:=h.ww s c d;exact Pv.2 ⟨t,f,e⟩)
 simpa using b
variable {t : Zk}
theorem BS.waiters(l:a_ (Kk Kq)){ws:Qw->List Nat}(h:BS Kq ts ws)(_hn:(ts.map (·.tb)).Nodup){i:Nat}(hi:ts[i]? =some t)(m:bL (Kk Kq) (Qq (Qj ts)) t.r):∀b∈ws t.r.name,∃(j:Nat) (u:Zk),j≠i/\ts[j]? =some u/\u.tb=b/\1<=u.op/\u.op<=1000:=fun b d=>by
 obtain⟨u,c,e⟩:=h.ww _ b d;obtain⟨_,_,n⟩:=h.self (Pj hi) m;obtain⟨j,f,rfl⟩:=Ph c;have p:=(h.wt t.r.name ts[j] c).1 (by rw[e];exact d);have g:=h.op ts[j] c;refine⟨j,ts[j],fun q=>?_,OZ f,e, ?_, ?_⟩
 ·subst q;rw[OZ f] at hi;cases hi;exact n _ (by rw[e];exact d)
 ·rw[g];exact List.length_pos_of_mem p
 ·rw[g];obtain⟨A,k,s,v⟩:=(h.good.good ts[j].r (PV c)).act;have w:=(jM (l _ _ k).1 s v).1;unfold pend
  split
  ·exact OW _
  ·rw[k];simp only;have:=List.length_filter_le (fun a=>(bE (Kk Kq) (Qq (Qj ts)) a).isNone) (stepOf A ts[j].r.at').asks;omega
structure u_ (Kq:List Qz) (σ:Env) (t t2:Zk):Prop where
 nx:Xx (Kk Kq) σ t.r= (if (stepOf ⟨t.cost,t.steps⟩ t2.r.at').fin=true then {t2.r with over:=true,fail:=(stepOf ⟨t.cost,t.steps⟩ t2.r.at').bad,text:=oO (stepOf ⟨t.cost,t.steps⟩ t2.r.at').give t2.r.texts} else t2.r,(stepOf ⟨t.cost,t.steps⟩ t2.r.at').asks)
 lo:0<=t2.r.at'
 hi:t2.r.at' < t.steps.length
 ov:t2.r.over=false
 vi:t2.r.Zq≠0
 nm:t2.r.name=t.r.name
theorem u_.first{σ:Env}{t1:Zk}(a:t1= {t with r:={t.r with Zq:=t.r.Zq+1}})(b:t.r.Zq=0)(c:Kk Kq t.r.name=some ⟨t.cost,t.steps⟩)(d:bL (Kk Kq) σ t.r)(e:0<=t.r.at')(f:t.r.at' < t.steps.length):u_ Kq σ t t1:=by
 subst a;refine⟨?_,e,f,d.1,by show t.r.Zq+1≠0;omega,rfl⟩;unfold Xx;rw[c];simp only;rw[Qg b]
 rfl
variable {xs : List Xz}
theorem Jf{σ:Env}(a:Kk Kq t.r.name=some ⟨t.cost,t.steps⟩)(b:t.r.Zq≠0)(e:t.r.Zq<20)(c:Yz (Kk Kq) σ (stepOf ⟨t.cost,t.steps⟩ t.r.at').asks=some xs)(d:(fq (stepOf ⟨t.cost,t.steps⟩ t.r.at') xs).over=true):Xx (Kk Kq) σ t.r= ({t.r with Zq:=t.r.Zq+1,over:=true,fail:=true,text:=(fq (stepOf ⟨t.cost,t.steps⟩ t.r.at') xs).text},[]):=by
 unfold Xx;rw[a];simp only;rw[Qh b,c];simp only;rw[Qh (by omega),Qg d]
theorem u_.gone{a:Zk}(h:a_ (Kk Kq))(i:dU Kq (Qj ts))(hgd:t.r.Good Kq)(b:Kk Kq t.r.name=some ⟨t.cost,t.steps⟩)(c:bL (Kk Kq) (Qq (Qj ts)) t.r)(j:t.r.Zq≠0)(p:t.r.Zq<20)(k:Yz (Kk Kq) (Qq (Qj ts)) (stepOf ⟨t.cost,t.steps⟩ t.r.at').asks=some xs)(l:(fq (stepOf ⟨t.cost,t.steps⟩ t.r.at') xs).over=false)(h2:a.r= {t.r with Zq:=t.r.Zq+1,at':=(fq (stepOf ⟨t.cost,t.steps⟩ t.r.at') xs).at',texts:=t.r.texts++aJ xs}):u_ Kq (Qq (Qj ts)) t a:=by
 have d:Xx (Kk Kq) (Qq (Qj ts)) t.r= (if (stepOf ⟨t.cost,t.steps⟩ a.r.at').fin=true then {a.r with over:=true,fail:=(stepOf ⟨t.cost,t.steps⟩ a.r.at').bad,text:=oO (stepOf ⟨t.cost,t.steps⟩ a.r.at').give a.r.texts} else a.r,(stepOf ⟨t.cost,t.steps⟩ a.r.at').asks):=by
  unfold Xx;rw[b];simp only;rw[Qh j,k];simp only;rw[Qh (by omega),Qh (by rw[l];simp),h2]
  rfl
 have m:=(fM h i.env hgd c).act;obtain⟨q,e,f,g⟩:=m;rw[fe,b] at e;cases e;have n:(Xx (Kk Kq) (Qq (Qj ts)) t.r).1.at'=a.r.at':=by rw[d];simp only;split <;> rfl
 rw[n] at f g;exact⟨d,f,g,by rw[h2];exact c.1,by rw[h2];show t.r.Zq+1≠0;have:=hgd.lo;omega,by rw[h2]⟩
theorem oC{W:aZ}{σ b:Env}(h:∀a,bE W b a=bE W σ a):∀l,Yz W b l=Yz W σ l
 | []=>rfl
 | a :: l=>by unfold Yz;rw[h a,oC h l]
theorem zN{i:Nat}{t1:Zk}(a:dB (Qj ts))(hi:ts[i]? =some t)(_ho:t.r.over=false)(b:t1= {t with r:={t.r with Zq:=t.r.Zq+1}}){l:List Qw}:Yz (Kk Kq) (Qq (Qj (ts.set i t1))) l=Yz (Kk Kq) (Qq (Qj ts)) l:=by
 refine oC (fun n=>?_) l;have d:i<ts.length:=(O_.1 hi).1;have c:(Qj ts)[i]? =some t.r:=by unfold Qj;rw[List.getElem?_map,hi];rfl
 unfold bE;cases Kk Kq n with
 | none=>rfl
 | some A=>
  simp only;rw[qg d,Cs a c (by rw[b])];by_cases e:n=t.r.name
  ·rw[Qg e,e,bU a (Pj c),b]
  ·rw[Qh e]
variable {s : Xq}
theorem ET(f:a_ (Kk Kq))(q:∀y∈Kq,y.Fits)(a:Kk Kq t.r.name=some ⟨t.cost,t.steps⟩)(hgd:t.r.Good Kq)(v:bL (Kk Kq) (Qq (Qj ts)) t.r)(w:dU Kq (Qj ts))(z:t.r.Zq≠0)(b:s=stepOf ⟨t.cost,t.steps⟩ t.r.at')(c:Yz (Kk Kq) (Qq (Qj ts)) s.asks=some xs):
  s.Fits/\s.fin=false/\s.asks.length<=5/\(∀x∈s.asks,x.size<=20)/\(s.asks.length≠0->0<=s.on/\s.on<s.asks.length)/\yB s xs/\∀x∈xs,x.text.size<=200:=by
 obtain⟨I,g,A,d⟩:=hgd.act;rw[a] at g;cases g;have i:s.fin=false:=by rw[b];exact hgd.stp _ a v.1 z
 obtain⟨j,k⟩:=jM (f _ _ a).1 A d;rw[<-b] at j k;have l:∀x∈s.asks,x.size<=20:=fun x c=>(k x c).2.1
 obtain⟨B,C⟩:=rG w.env l c;have D:=(f _ _ a).1.2.2 t.r.at'.toNat (by dsimp only at d⊢;omega);have E:lC s t.steps.length:=by rw[b];exact D
 have F:=(E.2 i).1.2.2.2.2.2.2.2;refine⟨?_,i,j,l,fun J=>?_,B,C⟩
 ·obtain⟨G,m,_,_,e⟩:=gm a;simp only[fA.mk.injEq] at e;have H:=q _ (Pf m);have n:s∈(Kq.getD G Qz.zero).steps:=by
   rw[b,<-e.2];unfold stepOf;dsimp only at d⊢;have p:t.r.at'.toNat<t.steps.length:=by omega
   simp only[List.getD,OZ p,Ql];exact Pf p
  simp only[List.getD,OZ m,Ql] at n;exact H.each s n
 ·rcases F with h|h
  ·rw[h];omega
  ·exact h
theorem step_ok{x:Int}(a:a_ (Kk Kq))(b:Kk Kq t.r.name=some ⟨t.cost,t.steps⟩)(d:0<=x)(e:x<t.steps.length)(c:s=stepOf ⟨t.cost,t.steps⟩ x):lC s t.steps.length:=by
 rw[c];exact (a _ _ b).1.2.2 x.toNat (by dsimp only;omega)
theorem zW{x:Int}(a:a_ (Kk Kq))(b:Kk Kq t.r.name=some ⟨t.cost,t.steps⟩)(c:0<=x)(d:x<t.steps.length)(e:s=stepOf ⟨t.cost,t.steps⟩ x)(f:s.fin=true):s.asks=[]:=
 Pk.1 ((step_ok a b c d e).1 f).1
theorem vO{x:Int}(c:a_ (Kk Kq))(d:Kk Kq t.r.name=some ⟨t.cost,t.steps⟩)(e:0<=x)(f:x<t.steps.length)(g:s=stepOf ⟨t.cost,t.steps⟩ x):s.asks.Nodup:=by
 have h:=step_ok c d e f g;cases a:s.fin with
 | true=>rw[Pk.1 (h.1 a).1];exact List.nodup_nil
 | false=>
  have i:=(h.2 a).1.2.2.2.1;rw[List.Nodup,Pg];intro j k l b m n;have:=(i k b).2 j m;simp only[List.getD,OZ l,OZ b,Ql] at this;exact this n
theorem IW{x:Int}(d:∀y∈Kq,y.Fits)(f:Kk Kq t.r.name=some ⟨t.cost,t.steps⟩)(i:0<=x)(j:x<t.steps.length)(g:s=stepOf ⟨t.cost,t.steps⟩ x):s.give.size<=maxLen:=by
 obtain⟨k,a,_,_,e⟩:=gm f;simp only[fA.mk.injEq] at e;have h:=d _ (Pf a);have b:s∈(Kq.getD k Qz.zero).steps:=by
  rw[g,<-e.2];unfold stepOf;dsimp only;have c:x.toNat<t.steps.length:=by omega
  simp only[List.getD,OZ c,Ql];exact Pf c
 simp only[List.getD,OZ a,Ql] at b;exact (h.each s b).give
theorem Jw{a:Zk}(c:a_ (Kk Kq))(d:dU Kq (Qj ts))(hgd:t.r.Good Kq)(e:bL (Kk Kq) (Qq (Qj ts)) t.r)(h:u_ Kq (Qq (Qj ts)) t a):a.r.texts.length<=1000:=by
 have b:=fM c d.env hgd e;have f:(Xx (Kk Kq) (Qq (Qj ts)) t.r).1.texts=a.r.texts:=by rw[h.nx];simp only;split <;> rfl
 have g:=b.tl;have i:=b.hi;rw[f] at g;omega
def Oi(G:cO)(Kq:List Qz)(wz:Qy)(bb:Nat)(a:Qx)(cap:Nat)(rd:Qx)(rn rc mb mx:Nat)(ts:List Zk)(d:Qx)(dc:Nat)(f:Qw->QA)(ws:Qw->List Nat)(i:Nat)(t:Zk)(b:Bool)(w':Qy):Prop:=
 (b=true/\∃ts' f' ws',BM G Kq wz w' bb a cap rd rn rc mb mx ts' d dc f' ws'/\BS Kq ts' ws'/\Qq (Qj ts')=doX (Kk Kq) (Qq (Qj ts)) t.r.name)\/
 (b=false/\∃t2,BM G Kq wz w' bb a cap rd rn rc mb mx (ts.set i t2) d dc f ws/\t2.tb=t.tb/\(t2.op=t.op/\t2.bl=t.bl/\t2.qs=t.qs)/\t2.cost=t.cost/\t2.steps=t.steps/\u_ Kq (Qq (Qj ts)) t t2)
section
variable {G : cO} {Kq : List Qz} {wz w w' : Qy} {bb : Nat} {a : Qx} {cap : Nat} {rd : Qx} {rn rc : Nat} {mb mx : Nat} {ts : List Zk} {d : Qx} {dc : Nat} {f : Qw -> QA} {ws : Qw -> List Nat}
theorem Dx(hB:BM G Kq wz w bb a cap rd rn rc mb mx ts d dc f ws)(hS:BS Kq ts ws){i:Nat}(hi:ts[i]? =some t)(hc:bL (Kk Kq) (Qq (Qj ts)) t.r)(D:a_ (Kk Kq))(e9:∀y∈Kq,y.Fits)(c2:Kq.length<=60)(j3:mV Kq)(hN:bJ wz a Kq)(m3:mx<=90000)(j4:jR wz):
  Calls prog 154 #[.pointer (some ⟨bb,0,none⟩),.pointer (some ⟨t.tb,0,none⟩)] w fun e w'=>e= .returned (.tuple #[])/\∃V d' c3 f' a1,BM G Kq wz w' bb a cap rd rn rc mb (mx+6) V d' c3 f' a1/\BS Kq V a1/\Qq (Qj V)=doX (Kk Kq) (Qq (Qj ts)) t.r.name:=by
 have ht:t∈ts:=List.mem_of_getElem? hi;obtain⟨m4,j5,m5⟩:=hS.self ht hc;have hgd:=hS.good.good t.r (List.mem_map_of_mem ht);have hA:=(hB.act t ht).1;obtain⟨A',f0,f1,c4⟩:=hgd.act;rw[hA] at f0;cases f0;dsimp only at c4;have hT:=hB.at hi;have c5:w.cell? ⟨t.tb,5,none⟩=some (.int .i64 t.r.Zq):=hT.rng 5 _ rfl;have tz:=hT.row.lt;obtain⟨_,f2⟩:=hT.row.row.at (i:=5) (by omega);have lo:=hgd.lo;have m6:=hgd.hi;have m7:=hB.len c2;have f3:i<ts.length:=(List.getElem?_eq_some_iff.1 hi).1;have c6:=Kz (hS.waiters D hB.tbs hi hc);have m8:=hS.NV t.r.name;have c7:t.r.name.size<=1000:=by have:=(D _ _ hA).2.2.1;omega
 have⟨HB,p,E,z,q⟩:=dX hB hS hi hc hA;have HG:=Kz hgd;clear hB hS hi hc hA hT hgd j5;go_enter func154,ntmps154
 go_wp2_with fail
 refine (Jb w t.tb t.r.Zq c5).mono ?_;rintro e w0 ⟨d0,f4⟩;rw[f4];clear f4 w0;rcases d0.cases with⟨rfl,a9⟩|⟨rfl,a9⟩
 ·have b7:=Kz a9;clear a9 d0;go_wp2_with fail
  refine (nY HB.o E.o true oV c7 (by omega) (fun b M=>?_) (p.o.wn _)).mono ?_
  ·obtain⟨b0,u,W,b1,h3,h4,h5⟩:=c6.o b M;exact⟨b0,u,by rw[Pp (Ne.symm W)];exact b1,h3,h4,h5⟩
  rintro e wF ⟨rfl,a2⟩;have d1:=Kz a2;clear a2;go_wp2_with fail
  refine bodyPost_ret (results_none rfl _ _ _) rfl ?_;obtain⟨xs,X⟩:=qI z.o q.o (by have:=b7.o;omega);have l:Xx (Kk Kq) (Qq (Qj ts)) t.r= ({t.r with over:=true,fail:=true,text:=oV},[]):=by
   unfold Xx;rw[q.o];simp only;rw[Qh (by have:=b7.o;omega),X];simp only;rw[Qg b7.o]
  obtain⟨q1,q2⟩:=p.o.ended D HB.o.tbs (t':=t.ended true oV) E.o z.o (by rw[l];rfl) rfl (by rw[l]) rfl rfl (.inl ⟨(p.o.bl t (Pj E.o)).open z.o.1,fun _ _=>.inl rfl⟩) rfl;exact⟨rfl,_,d,dc,_,_,d1.o.more (by omega),q1,q2⟩
 ·have b7:=Kz a9;have f5:t.r.Zq<20:=by omega
  clear a9 d0;obtain⟨N,b8⟩:∃N:Zk,N= {t with r:={t.r with Zq:=t.r.Zq+1}}:=⟨_,rfl⟩;obtain⟨W1,d2⟩:=ag (w.setCell ⟨t.tb,5,none⟩ (.int .i64 (t.r.Zq+1)));have d3:Hid (BM G Kq wz W1 bb a cap rd rn rc mb mx (ts.set i N) d dc f ws):=by rw[d2,b8];exact HB.o.store E.o (by omega) rfl rfl rfl rfl rfl rfl rfl rfl rfl rfl
  have f6:Hid ((ts.set i N)[i]? =some N):=Qe f3;go_upto_region 3 with fail
  rw[<-d2];clear d2;have j6:W1.cell? ⟨t.tb,5,none⟩=some (.int .i64 (t.r.Zq+1)):=by have v:=(d3.o.at f6.o).rng 5 _ rfl;rw[b8] at v;exact v
  have j:=Kz b8;clear b8;go_cut [30] from 19 to 29 (fun j7 wx=>∃b:Bool,j7= .bool b/\Oi G Kq wz bb a cap rd rn rc mb mx ts d dc f ws i t b wx)
  case first=>
   by_cases a3:t.r.Zq=0
   ·have j8:¬(1:Int)<t.r.Zq+1:=by omega
    have j9:=Kz a3;clear a3;go_wp2
    go_meet
    exact⟨false,rfl,.inr ⟨rfl,N,d3.o,by rw[j.o],by rw[j.o];exact⟨rfl,rfl,rfl⟩,by rw[j.o],by rw[j.o],u_.first j.o j9.o q.o z.o f1 c4⟩⟩
   ·have j8:(1:Int)<t.r.Zq+1:=by omega
    have d4:=Kz a3;obtain⟨xs,X⟩:=qI z.o q.o a3;obtain⟨s,F⟩:=ag (stepOf ⟨t.cost,t.steps⟩ t.r.at');rw[<-F] at X;obtain⟨hF,O,b2,f8,f9,g0,g1⟩:=ET D e9 q.o HG.o z.o p.o.good a3 F X;have g2:Yz (Kk Kq) (Qq (Qj (ts.set i N))) s.asks=some xs:=by rw[zN p.o.good.asc E.o z.o.1 j.o];exact X
    have k0:t.r.texts.length<=1000:=by have:=HG.o.tl;omega
    have⟨g3,a4⟩:=aD X F;have g4:=Kz (zu d3.o (t:=N) f6.o s (by rw[j.o];exact F) (by rw[j.o];exact f1) (by rw[j.o];exact c4) O xs g2 g1 (lD g0) hF b2 f8 f9 c2 (by rw[j.o];exact k0) (by rw[j.o];exact c7) (by rw[j.o];show (ws t.r.name).length<=1000;omega) (fun b M=>by
     rw[j.o] at M;obtain⟨b0,u,W,b1,h3,h4,h5⟩:=c6.o b M;exact⟨b0,u,W,by rw[Pp (Ne.symm W)];exact b1,h3,h4,h5⟩) (by rw[j.o];exact p.o.wn _))
    have k1:Hid (N.tb=t.tb):=by rw[j.o];rfl
    rw[k1.o] at g4;clear a3 X F hF O b2 f8 f9 g0 g1 g2;go_wp2_with fail
    refine g4.o.mono ?_;rintro e A (⟨b3,rfl,bl,g5,b4⟩|⟨b3,rfl,m9,b4⟩)
    ·have g6:=Kz g5;clear g5;have⟨d5,d6⟩:=aD b4 b3;clear b4 b3;go_wp2
     go_meet
     have b5:=d5.o;rw[j.o,List.set_set] at b5;have l:=Jf q.o d4.o f5 (by rw[<-a4.o];exact g3.o) (by rw[<-a4.o];exact d6.o);obtain⟨q1,q2⟩:=p.o.ended D HB.o.tbs (t':=(({t with bl:=bl,r:={t.r with Zq:=t.r.Zq+1}}:Zk).ended true (fq s xs).text)) E.o z.o (by rw[l,a4.o];rfl) rfl (by rw[l]) rfl rfl (.inr ⟨rfl,rfl,⟨⟨t.cost,t.steps⟩,q.o,HG.o.stp _ q.o z.o.1 d4.o,by have v:=g6.o.1;rw[j.o] at v;exact v⟩,g6.o.2⟩) rfl;exact⟨true,rfl,.inl ⟨rfl,_,_,_,b5,q1,q2⟩⟩
    ·have d5:=Kz b4;have d6:=Kz b3;clear b4 b3;go_wp2
     go_meet
     have b5:=d5.o;rw[j.o,List.set_set] at b5;exact⟨false,rfl,.inr ⟨rfl,_,b5,rfl,⟨rfl,rfl,rfl⟩,rfl,rfl,u_.gone D p.o.good HG.o q.o z.o d4.o f5 (by rw[<-a4.o];exact g3.o) (by rw[<-a4.o];exact d6.o) (by rw[<-a4.o])⟩⟩
  case rest=>
   obtain⟨b,rfl,hm⟩:=hcut;obtain⟨A,rfl⟩:=ag wc;rcases hm with⟨rfl,V,f',a1,g7,g8,g9⟩|⟨rfl,c,C,e1,h0,k2,d7,P⟩
   ·have k3:=Kz g7;have⟨k4,k5⟩:=aD g8 g9;clear g7 g8 g9;go_wp2_with fail
    refine bodyPost_ret (results_none rfl _ _ _) rfl ?_;exact⟨rfl,V,d,dc,f',a1,k3.o.more (by omega),k4.o,k5.o⟩
   have b9:(ts.set i c)[i]? =some c:=Qe f3;have c0:=C.at b9;have h1:=C.act c (Pj b9);obtain⟨h,d8⟩:∃h:Nat,c.r.at'= (h:Int):=⟨c.r.at'.toNat,by have:=P.lo;omega⟩;have k7:h<c.steps.length:=by have:=P.hi;rw[d7];omega
   obtain⟨k,n,cs,h2,Q,J,R,S,Y,Z,rfl,d9,h6,_⟩:=h1.2 h k7;obtain⟨s,F⟩:=ag (stepOf ⟨t.cost,t.steps⟩ c.r.at');have h7:c.steps.getD h Xq.zero=s:=by rw[F,d7];unfold stepOf;rw[d8];rfl
   rw[h7] at J d9 h6;have c8:A.cell? ⟨t.tb,8,none⟩=some (.slice c.sa c.steps.length c.sc):=by rw[<-e1];exact c0.rng 8 _ rfl
   have e0:A.cell? ⟨t.tb,4,none⟩=some (.int .i64 c.r.at'):=by rw[<-e1];exact c0.rng 4 _ rfl
   rw[h2] at c8;rw[d8] at e0;have h8:t.tb<A.heap.size:=by rw[<-e1];exact c0.row.lt
   have U:k<A.heap.size:=OV Q C.kw.size;have y0:A.cell? ⟨k,n+h*8,none⟩=some (.slice R s.asks.length S):=(C.kw.cell Q).trans (J 0 _ rfl);have y1:A.cell? ⟨k,n+h*8+1,none⟩=some (.int .i64 s.on):=(C.kw.cell Q).trans (J 1 _ rfl);have y2:A.cell? ⟨k,n+h*8+2,none⟩=some (.slice Y s.cases.length Z):=(C.kw.cell Q).trans (J 2 _ rfl);have y3:A.cell? ⟨k,n+h*8+3,none⟩=some (.int .i64 s.els):=(C.kw.cell Q).trans (J 3 _ rfl);have y4:A.cell? ⟨k,n+h*8+4,none⟩=some (.int .i64 s.fall):=(C.kw.cell Q).trans (J 4 _ rfl);have y5:A.cell? ⟨k,n+h*8+5,none⟩=some (.bool s.fin):=(C.kw.cell Q).trans (J 5 _ rfl);have y6:A.cell? ⟨k,n+h*8+6,none⟩=some (.bool s.bad):=(C.kw.cell Q).trans (J 6 _ rfl);have y7:A.cell? ⟨k,n+h*8+7,none⟩=some (.string s.give):=(C.kw.cell Q).trans (J 7 _ rfl);have i0:Hid (∀w',K_ A w'->w'.cell? ⟨t.tb,8,none⟩=some (.slice (some ⟨k,n,none⟩) c.steps.length c.sc)/\w'.cell? ⟨t.tb,4,none⟩=some (.int .i64 (h:Int))/\w'.cell? ⟨k,n+h*8,none⟩=some (.slice R s.asks.length S)/\w'.cell? ⟨k,n+h*8+1,none⟩=some (.int .i64 s.on)/\w'.cell? ⟨k,n+h*8+2,none⟩=some (.slice Y s.cases.length Z)/\w'.cell? ⟨k,n+h*8+3,none⟩=some (.int .i64 s.els)/\w'.cell? ⟨k,n+h*8+4,none⟩=some (.int .i64 s.fall)/\w'.cell? ⟨k,n+h*8+5,none⟩=some (.bool s.fin)/\w'.cell? ⟨k,n+h*8+6,none⟩=some (.bool s.bad)/\w'.cell? ⟨k,n+h*8+7,none⟩=some (.string s.give)):=fun w' K=>⟨(K.cell h8).trans c8,(K.cell h8).trans e0,(K.cell U).trans y0,(K.cell U).trans y1,(K.cell U).trans y2,(K.cell U).trans y3,(K.cell U).trans y4,(K.cell U).trans y5,(K.cell U).trans y6,(K.cell U).trans y7⟩
   have⟨i1,a5,k8,L,a6⟩:=dX C b9 d9 P F;have⟨a0,E2⟩:=aD e1 h0;have n0:(h:Int)<(c.steps.length:Int):=by omega
   obtain⟨i2,i3⟩:=jM (D _ _ q.o).1 P.lo (by exact P.hi);rw[<-F] at i2 i3;have k9:s.give.size<=maxLen:=IW e9 q.o P.lo P.hi F;have n1:c.r.texts.length<=1000:=Jw D p.o.good HG.o z.o P;clear C b9 c0 h1 h2 J d9 h6 h7 c8 e0 y0 y1 y2 y3 y4 y5 y6 y7 P d8 F e1 h0 k2 d7 j6;go_upto_region 4 with fail
   refine aR 13 i0.o fun T KD H=>?_
   refine af 0 H ?_;refine af 4 H ?_;refine af 8 H ?_;refine ay 12 (fun K I=>?_);go_simp
   have K2:K_ T (T.alloc (.cells #[.slice none 0 0,.int .i64 0,.slice none 0 0,.int .i64 0,.int .i64 0,.bool false,.bool false,.string ⟨#[]⟩] 172)):=ak _ _;have B:aL (T.alloc (.cells #[.slice none 0 0,.int .i64 0,.slice none 0 0,.int .i64 0,.int .i64 0,.bool false,.bool false,.string ⟨#[]⟩] 172)) T.heap.size 172 8:=aL.made T _ _;have KE:=KD.trans K2;have nz:=KD.size;obtain⟨x,i4⟩:=ag T.heap.size;refine I.out _ _ (fun _=>i0.o _ KE) ?_;clear I K H;rw[<-i4] at B nz⊢;generalize l0:T.alloc (.cells #[.slice none 0 0,.int .i64 0,.slice none 0 0,.int .i64 0,.int .i64 0,.bool false,.bool false,.string ⟨#[]⟩] 172)=wE at B KE⊢;clear l0 K2 i4;try simp only[Act.put,upA,upB,upC]
   obtain⟨⟨_,v0⟩,l1⟩:=B.row.at (i:=0) (by omega);obtain⟨⟨_,v1⟩,l2⟩:=B.row.at (i:=1) (by omega);obtain⟨⟨_,v2⟩,l3⟩:=B.row.at (i:=2) (by omega);obtain⟨⟨_,v3⟩,l4⟩:=B.row.at (i:=3) (by omega);obtain⟨⟨_,v4⟩,l5⟩:=B.row.at (i:=4) (by omega);obtain⟨⟨_,v5⟩,f2⟩:=B.row.at (i:=5) (by omega);obtain⟨⟨_,v6⟩,l6⟩:=B.row.at (i:=6) (by omega);obtain⟨⟨_,v7⟩,f7⟩:=B.row.at (i:=7) (by omega);have vz:=B.lt;refine ay 13 (fun K I=>?_);go_simp
   refine I.out _ _ (fun v=>Qi rfl v) ?_;clear I K;try simp only[Act.put,upA,upB,upC]
   refine az ?_;have b6:=Kz (OY wE x 0 [.slice R s.asks.length S,.int .i64 s.on,.slice Y s.cases.length Z,.int .i64 s.els,.int .i64 s.fall,.bool s.fin,.bool s.bad,.string s.give] (B.row.there (o:=0) (m:=8) (OU _)));have e2:=Kz (bG (g:=x) nz [.slice R s.asks.length S,.int .i64 s.on,.slice Y s.cases.length Z,.int .i64 s.els,.int .i64 s.fall,.bool s.fin,.bool s.bad,.string s.give] 0 KE);have i5:=Kz (aL.sets [.slice R s.asks.length S,.int .i64 s.on,.slice Y s.cases.length Z,.int .i64 s.els,.int .i64 s.fall,.bool s.fin,.bool s.bad,.string s.give] 0 B);obtain⟨w5,e3⟩:=ag (wE.setCells x 0 [.slice R s.asks.length S,.int .i64 s.on,.slice Y s.cases.length Z,.int .i64 s.els,.int .i64 s.fall,.bool s.fin,.bool s.bad,.string s.give]);rw[<-e3] at b6 e2 i5;go_upto_region 5 with fail
   have i6:((((((((wE.setCell ⟨x,0,none⟩ (.slice R s.asks.length S)).setCell ⟨x,1,none⟩ (.int .i64 s.on)).setCell ⟨x,2,none⟩ (.slice Y s.cases.length Z)).setCell ⟨x,3,none⟩ (.int .i64 s.els)).setCell ⟨x,4,none⟩ (.int .i64 s.fall)).setCell ⟨x,5,none⟩ (.bool s.fin)).setCell ⟨x,6,none⟩ (.bool s.bad)).setCell ⟨x,7,none⟩ (.string s.give))=w5:=by rw[e3];rfl
   rw[i6];clear i6 e3 v0 v1 v2 v3 v4 v5 v6 v7 l1 l2 l3 l4 l5 f2 l6 f7 vz B KE nz KD;have a7:=Kz (i1.o.kept e2.o);have q5:w5.cell? ⟨x,5,none⟩=some (.bool s.fin):=b6.o 5 _ rfl;have gz:=i5.o.lt;cases O:s.fin
   ·rw[O] at q5;have n2:w5.cell? ⟨x,0,none⟩=some (.slice R s.asks.length S):=b6.o 0 _ rfl;have i7:=Kz (BH a7.o a5.o R S s.asks i2 (fun l7 hx=>(i3 l7 hx).2.1) (vO D q.o L.o.lo L.o.hi a6.o) k8.o (by omega) c2 j3 hN (fun s' b M=>?_) (fun s'=>by have:=p.o.NV s';omega) (by rw[E2.out.1];omega));rotate_left
    ·obtain⟨e4,hv,e⟩:=p.o.ww s' b M;by_cases g:e4.tb=t.tb
     ·exact⟨c,(Ch E.o).1,by rw[a0.out,<-g,e]⟩
     ·exact⟨e4,(Ch E.o).2 e4 hv g,e⟩
    rw[a0.out] at i7;go_wp2_with fail
    refine i7.o.mono ?_;rintro e w6 ⟨rfl,l8,V,d',c3,f',a1,b2,i8,i9⟩;have⟨e5,l9,m0⟩:=bA i8 i9 b2;clear i8 i9 b2;go_wp2
    go_end0
    have l:=L.o.nx;rw[<-a6.o,O] at l;simp only[Bool.false_eq_true,if_false] at l;obtain⟨z1,z2⟩:=p.o.asked D HB.o.tbs (ts0:=l8) (t1:={c with qs:=c.qs++s.asks.map Value.string}) E.o z.o (by show c.r=_;rw[l]) L.o.ov L.o.vi a0.out ⟨E2.out.1,E2.out.2.1,by show c.qs++_=_;rw[l,E2.out.2.2]⟩ (by have v:=m0.o;rw[List.set_set] at v;exact v) e5.o.asc e5.o.tbs q.o (by show _= (stepOf _ c.r.at').asks;rw[l,a6.o]) (by have v:=l9.o;rw[a0.out] at v;rw[l];exact v);exact⟨rfl,V,d',c3,f',a1,e5.o,z1,z2⟩
   ·rw[O] at q5;have j0:Hid (∀w',K_ w5 w'->w'.cell? ⟨x,6,none⟩=some (.bool s.bad)/\w'.cell? ⟨x,7,none⟩=some (.string s.give)/\w'.cell? ⟨t.tb,6,none⟩=some (c.tv)):=fun w' K=>⟨(K.cell gz).trans (b6.o 6 _ rfl),(K.cell gz).trans (b6.o 7 _ rfl),by rw[<-a0.out];exact ((a7.o.kept K).at a5.o).rng 6 _ rfl⟩
    obtain⟨ta,tc,c1⟩:=aG (a7.o.at a5.o).txt;have m1:=Kz c1;have j1:Hid (c.r.texts.length<=tc/\∀e6,K_ w5 e6->Strs e6 ta c.r.texts):=by
     refine⟨?_,fun e6 K=>?_⟩
     ·have j2:=(a7.o.at a5.o).txt;rw[c1] at j2;rcases j2.2 with⟨e,n3⟩|⟨g,cp,n4,e,_,_,n5,_⟩
      ·omega
      ·simp only[PO] at e;omega
     ·obtain⟨n6,c9,e7,h9⟩:=bM ((a7.o.kept K).at a5.o).txt;rw[c1] at e7;simp only[PO] at e7;rw[e7.1];exact h9
    clear c1;go_upto_region 6 with fail
    refine aR 12 j0.o fun T KD H=>?_
    refine af 0 H ?_;refine af 4 H ?_;refine ae 8 H ?_;refine ae 9 H ?_;refine ae 10 H ?_;refine ax 11 (fun K I=>?_);go_simp
    go_at_call 180
    rw[m1.o];refine (j4 T s.give ta tc c.r.texts (i1.o.kw.trans (e2.o.trans KD)) k9 (by unfold maxLen;omega) (j1.o.2 _ KD) j1.o.1).mono ?_;rintro e w6 ⟨rfl,k6⟩;have K6:=KD.trans k6;refine I.out _ _ (fun _=>j0.o _ K6) ?_;clear I K H;try simp only[Act.put,upA,upB,upC]
    refine ax 12 (fun K I=>?_);go_simp
    go_at_call 178
    have a8:=L.o.nm;have e8:=nY (a7.o.kept K6) a5.o s.bad (oO s.give c.r.texts) (by rw[a8];exact c7) (by rw[a8];omega) (fun b M=>by
     rw[a8] at M;obtain⟨b0,u,W,b1,h3,h4,h5⟩:=c6.o b M;exact⟨b0,u,by rw[Pp (Ne.symm W),Pp (Ne.symm W)];exact b1,h3,h4,h5⟩) (by rw[a8];exact p.o.wn _)
    rw[a0.out,a8] at e8;refine e8.mono ?_;rintro e wF ⟨rfl,a2⟩;rw[List.set_set] at a2;have d1:=Kz a2;clear a2 e8 a8;refine I.out _ _ (fun v=>Qi rfl v) ?_;clear I K;try simp only[Act.put,upA,upB,upC]
    refine az ?_;go_wp2_with fail
    refine bodyPost_ret (results_none rfl _ _ _) rfl ?_;have l:=L.o.nx;rw[<-a6.o,O] at l;simp only[if_true] at l;have m2:s.asks=[]:=zW D q.o L.o.lo L.o.hi a6.o O;obtain⟨z1,z2⟩:=p.o.ended D HB.o.tbs (t':=c.ended s.bad (oO s.give c.r.texts)) E.o z.o (by rw[l];rfl) rfl (by rw[l];exact m2) a0.out E2.out.1 (.inl ⟨E2.out.2.1.trans ((p.o.bl t (Pj E.o)).open z.o.1),fun _ _=>.inr ⟨⟨t.cost,t.steps⟩,by show Kk Kq c.r.name=_;rw[L.o.nm];exact q.o,by show (stepOf ⟨t.cost,t.steps⟩ c.r.at').fin=true;rw[<-a6.o];exact O⟩⟩) E2.out.2.2;exact⟨rfl,_,d,dc,_,_,d1.o.more (by omega),z1,z2⟩
end
