import Derived.Test.YtjbipapbckajnaaGreatDoorKBApp
set_option maxRecDepth 100000
set_option maxHeartbeats 25600000
namespace Go.Proofs.YtjbipapbckajnaaGreatDoor
open Go.RowKit Go.Proofs.Tryz
variable {tb : Nat}
section
variable {G : bV} {Kj : List Qq} {wz w w' : Pv} {bb : Nat} {a : Pt} {cap : Nat} {rd : Pt} {rn rc : Nat} {mb mx : Nat} {ts : List Zx} {d : Pt} {dc : Nat} {f : Ps -> Pw} {ws : Ps -> List Nat}
theorem BM.sJ(h:BM G Kj wz w bb a cap rd rn rc mb mx ts d dc f ws){s:Ps}(i:s.size<=maxLen){w1:Pv}(k:w.grownBy w1 (f s).ownBlock):(Instr.lookup 117 (.map (some mb)) (.string s) false).run prog w1= .ok (f s) w1:=by
 obtain⟨N,D,_,j,l⟩:=h.map;have m:w1.ownsMap prog 9 asIs mb N D:=dN (S:=λb=>(f s).ownBlock=some b) j (But.aI k (λb e=>e)) (λe=>gV j (Yz (h.jg s) e) rfl);obtain⟨v,q,n,c⟩:=m.lookup Tryz.keyed underlying117 (Tryz.Mx w1) (zd:= .held J3) (zp:=[]) rfl (WideMaps.keyOf_string_mk underlying9 i);have e:=l s i;unfold asIs at c;simp only[OE,Prod.mk.injEq] at c;have p:(DataW.held v:DataW Pw)= .held (f s):=c.1.trans e;cases p;exact n
theorem BM.wait(h:BM G Kj wz w bb a cap rd rn rc mb mx ts d dc f ws){s:Ps}(L:s.size<=maxLen){w1:Pv}{r:Pw}(H:w1.ownsRow wz.heap.size 70 1 r ((ws s).length+1) ((ws s).map lM++ [lM tb]))(M:w.grownBy w1 (f s).ownBlock)(A:∀g,r.ownBlock=some g->(f s).ownBlock=some g\/w.heap.size<=g)(W:mx<=1000000):
  ∃w2,(Instr.mapUpdate 117 (.map (some mb)) (.string s) r).run prog w1= .ok () w2/\BM G Kj wz w2 bb a cap rd rn rc mb (mx+1) ts d dc (λn=>if n=s then r else f n) (λn=>if n=s then ws s++ [tb] else ws n):=by
 obtain⟨N,O,X,v,P⟩:=h.map;have I:But (λb=>(f s).ownBlock=some b) w w1:=But.aI M (λb e=>e);have J:=dN v I (λe=>gV v (Yz (h.jg s) e) rfl);obtain⟨w2,Q,R,K⟩:=J.update Tryz.keyed underlying117 D5 (WideMaps.keyOf_string_mk underlying9 L) (d:= .held r) (ps:=[]) rfl;refine⟨w2,Q, ?_⟩;have j:But (λb=>(f s).ownBlock=some b\/b=mb) w w2:=(I.mono (λb _ e=>.inl e)).trans (But.aI K (λb e=>.inr (OQ e).symm));have S:But (λb=>b=mb) w1 w2:=But.aI K (λb e=>(OQ e).symm);have ne:∀{b:Nat} {t:TypeId},bf w b t->t≠70->¬((f s).ownBlock=some b\/b=mb):=λB E e=>by
  rcases e with e|e
  .exact aK B (Yz (h.jg s) e) E rfl
  .exact gV v B e
 have T:∀{b:Nat} {t:TypeId},bf w1 b t->¬b=mb:=λB e=>gV J B e
 have y:=h.row.lt;have m:=ne h.row.type A8;have U:Maps.IsMap O:=by obtain⟨Y,Z,_,_,_,rfl⟩:=v;exact⟨_,rfl⟩
 have V:Fen G w2 bb mb ts (λn=>if n=s then r else f n):=by
  have p:=h.oth.but j (λb e=>by
   rcases e with e|e
   .exact h.oth.nf s b e
   .rw[e];exact h.oth.nm)
  refine⟨p.size,p.lt,p.same,p.nb,p.nm,p.nt,λn x c=>?_,p.has⟩;by_cases e:n=s
  .simp only[Pe e] at c;rcases A x c with g|g
   .exact h.oth.nf s x g
   .exact h.oth.far g
  .simp only[Pf e] at c;exact h.oth.nf n x c
 refine⟨j.kept h.kw (λb e=>?_),j.row h.row m,(j.cell y m).trans h.c0,(j.cell y m).trans h.c1,(j.cell y m).trans h.c2,(j.cell y m).trans h.c3,(j.cell y m).trans h.c4,(j.cell y m).trans h.c5,h.low,j.owns h.items (λb e i=>?_),λt z=>(h.fE t z).but j (ne (h.fE t z).row.type A8) (λx c=>ne ((h.fE t z).bH c).1 A8),h.act,h.asc,h.tbs,h.sep,h.zW,⟨N+1,_,A7,R,λn E=>?_⟩,h.Ci,λn=>?_,λn C F x c q=>?_,λn x c e=>?_,λt z=>NT (h.qb t z) A7,V,h.gi⟩
 .rcases e with e|e
  .exact ((h.jg s).lt b e).1
  .rw[e];exact h.Ci
 .rcases i with i|i
  .exact h.Ck s b i e
  .exact gV v (Yz h.items e) i
 .by_cases e:n=s
  .rw[Pe e,e];exact Maps.atKey_put_same (k:=a_ s) U (by show WideAt.IsKeyLit (.string _);exact trivial) _ _
  .rw[Pf e,<-P n E];exact Maps.atKey_put_other (gm e) _ _
 .by_cases e:n=s
  .simp only[Pe e];have D:(ws s++ [tb]).length= (ws s).length+1:=A9;have i:(ws s++ [tb]).map lM= (ws s).map lM++ [lM tb]:=A9;rw[D,i];exact S.owns H (λb e=>T (Yz H e))
  .simp only[Pf e];refine j.owns (h.jg n) (λb D i=>?_);rcases i with i | i
   .exact h.zU n s e b D i
   .exact gV v (Yz (h.jg n) D) i
 .by_cases e:n=s
  .rw[Pe e] at c;rw[Pf (λl=>F (e.trans l.symm))] at q;rcases A x c with g | g
   .exact h.zU s C (λl=>F (e.trans l)) x g q
   .have:=((h.jg C).lt x q).2;omega
  .rw[Pf e] at c;by_cases l:C=s
   .rw[Pe l] at q;rcases A x q with g|g
    .exact h.zU n s e x c g
    .have:=((h.jg n).lt x c).2;omega
   .rw[Pf l] at q;exact h.zU n C F x c q
 .by_cases l:n=s
  .rw[Pe l] at c;rcases A x c with g|g
   .exact h.Ck s x g e
   .have:=(h.items.lt x e).2;omega
  .rw[Pf l] at c;exact h.Ck n x c e
end
def lg(Kj:List Qq)(ts:List Zx)(l:List Ps):List Ps:=l.filter λa=>(aP (Q_ Kj) (Qj (Qk ts)) a).isNone
structure qi (Kj:List Qq) (ts0:List Zx) (ws0:Ps->List Nat) (tb:Nat) (L1 L2:List Ps) (ts:List Zx) (ws:Ps->List Nat):Prop where
 env:∀n,Qj (Qk ts) n=match Qj (Qk ts0) n with | some x=>some x | none=>if dM L1 n=true/\(Q_ Kj n).isSome=true then some (Qz.fresh n) else none
 me:∃t0∈ts0,∃t∈ts,t0.tb=tb/\t.tb=tb/\t.r=t0.r/\t.op=t0.op+ (lg Kj ts0 L2).length/\t.bq=t0.bq
 other:∀t∈ts,t.tb≠tb->(∃t0∈ts0,t0.tb=t.tb/\t0.r=t.r/\t0.op=t.op/\t0.bq=t.bq)\/(t.r=Qz.fresh t.r.name/\(t.op=0/\t.bq= (⟨#[]⟩,[]))/\Qj (Qk ts0) t.r.name=none)
 old:∀t0∈ts0,∃t∈ts,t.tb=t0.tb/\t.r=t0.r
 wt:∀s,ws s=if dM (lg Kj ts0 L2) s=true then ws0 s++ [tb] else ws0 s
variable {ws0 : Ps -> List Nat} {Kj : List Qq} {ts0 : List Zx}
theorem qi.start{t:Zx}(h:t∈ts0):qi Kj ts0 ws0 t.tb [] [] ts0 ws0:=
 ⟨λn=>by cases Qj (Qk ts0) n <;> simp[dM],⟨t,h,t,h,rfl,rfl,rfl,rfl,rfl⟩,λu a _=>.inl ⟨u,a,rfl,rfl,rfl,rfl⟩,λu a=>⟨u,a,rfl,rfl⟩,λs=>by simp[lg,dM]⟩
variable {n : Ps} {ts : List Zx}
theorem iY :Qj (Qk ts) n=none↔∀t∈ts,t.r.name≠n:=by
 unfold Qj;rw[List.find?_eq_none];simp[Qk]
variable {ws : Ps -> List Nat} {L1 L2 : List Ps}
theorem qi.want{ts':List Zx}(h:qi Kj ts0 ws0 tb L1 L2 ts ws)(L:dz (Qk ts))(s:dz (Qk ts'))(v:(ts'.map (·.tb)).Nodup)(f:Jz Kj ts n ts'):qi Kj ts0 ws0 tb (L1++ [n]) L2 ts' ws:=by
 have i:∀m,dM (L1++ [n]) m=true↔dM L1 m=true\/m=n:=λm=>by simp[bT]
 rcases f with⟨rfl,f⟩|⟨p,new,rfl,k,y,z,A⟩
 .refine⟨λm=>?_,h.me,h.other,h.old,h.wt⟩;rw[h.env m];cases l:Qj (Qk ts0) m with
  | some x=>rfl
  | none=>
   simp only;by_cases e:m=n
   .subst e;rcases f with f|⟨t,B,e⟩
    .rw[Pf (by rw[f];simp),Pf (by rw[f];simp)]
    .by_cases a:dM L1 m=true/\(Q_ Kj m).isSome=true
     .rw[Pe a,Pe ⟨(i m).2 (.inl a.1),a.2⟩]
     .have:=h.env m;rw[l] at this;simp only at this;rw[Pf a] at this;exact Pg e (iY.1 this t B)
   .by_cases a:dM L1 m=true/\(Q_ Kj m).isSome=true
    .rw[Pe a,Pe ⟨(i m).2 (.inl a.1),a.2⟩]
    .rw[Pf a,Pf];rintro⟨c,d⟩;rcases (i m).1 c with g|g
     .exact a ⟨g,d⟩
     .exact e g
 .have j:∀u,u∈ts.take p++new :: ts.drop p↔u=new\/u∈ts:=λu=>by
   rw[N_,OL];constructor
   .rintro (h|h|h)
    .exact .inr (List.mem_of_mem_take h)
    .exact .inl h
    .exact .inr (List.mem_of_mem_drop h)
   .rintro (h|h)
    .exact .inr (.inl h)
    .rw[<-OW p ts] at h;rcases N_.1 h with h|h
     .exact .inl h
     .exact .inr (.inr h)
  have C:Qj (Qk ts) n=none:=iY.2 z;have w:Qj (Qk ts0) n=none:=by
   have:=h.env n;rw[C] at this;cases l:Qj (Qk ts0) n with
   | none=>rfl
   | some x=>rw[l] at this;cases this
  have D:∀m,Qj (Qk (ts.take p++new :: ts.drop p)) m=if m=n then some (Qz.fresh n) else Qj (Qk ts) m:=λm=>by
   by_cases e:m=n
   .rw[Pe e,e];have:=bE s (r:=new.r) (OP ((j new).2 (.inl rfl)));rw[k] at this;exact this
   .rw[Pf e];cases c:Qj (Qk ts) m with
    | some x=>
     obtain⟨E,F⟩:=aN c;obtain⟨u,b,rfl⟩:=Oq.1 E;have:=bE s (r:=u.r) (OP ((j u).2 (.inr b)));rw[F] at this;exact this
    | none=>
     rw[iY] at c⊢;intro u b;rcases (j u).1 b with rfl|b
     .rw[k];exact λG=>e G.symm
     .exact c u b
  have M:∀u∈ts,u.tb≠new.tb:=λu b e=>by
   have H:(ts.take p++new :: ts.drop p).map (·.tb)= (ts.take p).map (·.tb)++new.tb :: (ts.drop p).map (·.tb):=A9;rw[H] at v;have d:=List.nodup_append.1 v;rw[<-OW p ts] at b;rcases N_.1 b with b|b
   .exact d.2.2 _ (OP b) _ A9 e
   .exact (List.nodup_cons.1 d.2.1).1 (by rw[<-e];exact OP b)
  refine⟨λm=>?_, ?_,λu b I=>?_,λq J=>?_,h.wt⟩
  .rw[D m];by_cases e:m=n
   .rw[Pe e,e,w];simp only;rw[Pe ⟨(i n).2 (.inr rfl),A⟩]
   .rw[Pf e,h.env m];cases l:Qj (Qk ts0) m with
    | some x=>rfl
    | none=>
     simp only;by_cases a:dM L1 m=true/\(Q_ Kj m).isSome=true
     .rw[Pe a,Pe ⟨(i m).2 (.inl a.1),a.2⟩]
     .rw[Pf a,Pf];rintro⟨c,d⟩;rcases (i m).1 c with g|g
      .exact a ⟨g,d⟩
      .exact e g
  .obtain⟨q,c,t,d,K⟩:=h.me;exact⟨q,c,t,(j t).2 (.inr d),K⟩
  .rcases (j u).1 b with rfl|b
   .exact .inr ⟨by rw[k];rfl,y,by rw[k];exact w⟩
   .exact h.other u b I
  .obtain⟨t,c,d⟩:=h.old q J;exact⟨t,(j t).2 (.inr c),d⟩
theorem qi.ans(h:qi Kj ts0 ws0 tb L1 L2 ts ws)(n:Ps):aP (Q_ Kj) (Qj (Qk ts)) n=aP (Q_ Kj) (Qj (Qk ts0)) n:=by
 unfold aP;cases b:Q_ Kj n with
 | none=>rfl
 | some A=>
  simp only;rw[h.env n];cases c:Qj (Qk ts0) n with
  | some x=>rfl
  | none=>
   simp only
   split
   .rename_i r hr
    split at hr
    .cases hr;rfl
    .cases hr
   .rfl
theorem qi.skip(h:qi Kj ts0 ws0 tb L1 L2 ts ws)(b:(aP (Q_ Kj) (Qj (Qk ts0)) n).isSome=true):qi Kj ts0 ws0 tb L1 (L2++ [n]) ts ws:=by
 have e:lg Kj ts0 (L2++ [n])=lg Kj ts0 L2:=by
  unfold lg;rw[List.filter_append];cases d:aP (Q_ Kj) (Qj (Qk ts0)) n with
  | none=>rw[d] at b;cases b
  | some x=>simp[d]
 exact⟨h.env,by rw[e];exact h.me,h.other,h.old,by rw[e];exact h.wt⟩
theorem qi.wait(h:qi Kj ts0 ws0 tb L1 L2 ts ws)(D:aP (Q_ Kj) (Qj (Qk ts0)) n=none)(E:n∉L2){i:Nat}{t t':Zx}(hi:ts[i]? =some t)(l:t.tb=tb)(A:(ts.map (·.tb)).Nodup)(x:t'.tb=tb)(y:t'.r=t.r)(F:t'.op=t.op+1)(e0:t'.bq=t.bq):qi Kj ts0 ws0 tb L1 (L2++ [n]) (ts.set i t') (λm=>if m=n then ws n++ [tb] else ws m):=by
 obtain⟨c,rfl⟩:=NW.1 hi;have e:lg Kj ts0 (L2++ [n])=lg Kj ts0 L2++ [n]:=by
  unfold lg;rw[List.filter_append];simp[D]
 have G:n∉lg Kj ts0 L2:=λh=>E (List.mem_filter.1 h).1
 have H:Qk (ts.set i t')=Qk ts:=by
  rw[pR c,y];have e0:ts[i].r= (Qk ts)[i]'(by simpa[Qk] using c):=by simp[Qk]
  rw[e0,List.set_getElem_self]
 have mem:∀u∈ts.set i t',u=t'\/(u∈ts/\u.tb≠tb):=λu a=>by
  obtain⟨j,b,rfl⟩:=Oc a;rw[OZ] at b;rw[Pq]
  split
  .exact .inl rfl
  .rename_i f
   refine .inr ⟨Oa b,λe=>?_⟩;have p:=Ob.1 A;rcases Nat.lt_or_gt_of_ne f with g | g
   .have:=p i j (by simpa using c) (by simpa using b) g;simp at this;exact this (l.trans e.symm)
   .have:=p j i (by simpa using b) (by simpa using c) g;simp at this;exact this (e.trans l.symm)
 have one:∀u∈ts,u.tb=tb->u=ts[i]:=λu a e=>by
  obtain⟨j,b,rfl⟩:=Oc a;by_cases B:i=j
  .subst B;rfl
  .have p:=Ob.1 A;rcases Nat.lt_or_gt_of_ne B with g|g
   .have:=p i j (by simpa using c) (by simpa using b) g;simp at this;exact Pg (l.trans e.symm) this
   .have:=p j i (by simpa using b) (by simpa using c) g;simp at this;exact Pg (e.trans l.symm) this
 have C:t'∈ts.set i t':=List.mem_iff_getElem.2 ⟨i,by rw[OZ];exact c,A9⟩;have keep:∀u∈ts,u.tb≠tb->u∈ts.set i t':=λu a f=>by
  obtain⟨j,b,rfl⟩:=Oc a;refine List.mem_iff_getElem.2 ⟨j,by rw[OZ];exact b, ?_⟩;rw[Pq,Pf (λe=>f (by subst e;exact l))]
 refine⟨by rw[H];exact h.env, ?_,λu a f=>?_,λz I=>?_,λs=>?_⟩
 .obtain⟨z,q,t,v,w,J,k,K,L⟩:=h.me;have:=one t v J;subst this;exact⟨z,q,t',C,w,x,by rw[y,k],by rw[F,K,e];simp;omega,e0.trans L⟩
 .rcases mem u a with rfl|⟨a,_⟩
  .exact Pg x f
  .exact h.other u a f
 .obtain⟨t,q,v,w⟩:=h.old z I;by_cases d:t.tb=tb
  .have:=one t q d;subst this;exact⟨t',C,by rw[x,<-d,v],by rw[y,w]⟩
  .exact⟨t,keep t q d,v,w⟩
 .rw[e];by_cases d:s=n
  .subst d;rw[Pe rfl,Pe (bT.2 A9),h.wt s,Pf (λg=>G (bT.1 g))]
  .rw[Pf d,h.wt s];by_cases k:dM (lg Kj ts0 L2) s=true
   .rw[Pe k,Pe (bT.2 (N_.2 (.inl (bT.1 k))))]
   .rw[Pf k,Pf (λg=>by
     rcases N_.1 (bT.1 g) with g|g
     .exact k (bT.2 g)
     .exact d (NZ.1 g))]
section
variable {G : bV} {Kj : List Qq} {wz w w' : Pv} {bb : Nat} {a : Pt} {cap : Nat} {rd : Pt} {rn rc : Nat} {mb mx : Nat} {ts : List Zx} {d : Pt} {dc : Nat} {f : Ps -> Pw} {ws : Ps -> List Nat}
theorem BM.len(h:BM G Kj wz w bb a cap rd rn rc mb mx ts d dc f ws)(j:Kj.length<=60):ts.length<=60:=by
 have b:=List.Nodup.length_le_of_subset (AA h.asc) (l₂:=Kj.map (·.name)) (λn c=>by
  obtain⟨r,e,rfl⟩:=Oq.1 c;obtain⟨t,i,rfl⟩:=Oq.1 e;exact jA (by rw[(h.act t i).1];rfl))
 simp[Qk] at b;omega
def MG(G:bV)(Kj:List Qq)(wz:Pv)(bb:Nat)(a:Pt)(cap:Nat)(rd:Pt)(rn rc mb mx:Nat)(ts0:List Zx)(ws0:Ps->List Nat)(i:Nat)(t:Zx)(asks:List Ps)(w':Pv):Prop:=
 ∃(ts0' ts:List Zx) (d:Pt) (dc:Nat) (f:Ps->Pw) (ws:Ps->List Nat),(ts0'.map λt=>(t.tb,t.r,t.op,t.bq))= ((ts0.set i {t with qs:=t.qs++asks.map Value.string}).map λt=>(t.tb,t.r,t.op,t.bq))/\BM G Kj wz w' bb a cap rd rn rc mb (mx+6) ts d dc f ws/\qi Kj ts0' ws0 t.tb asks asks ts ws
theorem Bq(F:BM G Kj wz w bb a cap rd rn rc mb mx ts d dc f ws){i:Nat}{t:Zx}(hi:ts[i]? =some t)(aa:Pt)(ca:Nat)(asks:List Ps)(f2:asks.length<=5)(f3:∀x∈asks,x.size<=20)(f4:asks.Nodup)(hA:Strs wz aa asks)(j4:mx<=100000)(c3:Kj.length<=60)(f5:dI Kj)(hN:bN wz a Kj)(_hww:∀s b,b∈ws s->∃t∈ts,t.tb=b)(f6:∀s,(ws s).length<=1000)(f7:t.op<=1000):
  Calls prog 119 #[.c bb,.c t.tb,.slice aa asks.length ca] w λe w'=>e= .returned (.tuple #[])/\MG G Kj wz bb a cap rd rn rc mb mx ts ws i t asks w':=by
 obtain⟨is,f8,f9,g0,g3⟩:=aY Tryz.eP;obtain⟨ip,g4,g5,g6,g7⟩:=aY Tryz.yQ;have R:=F.at hi;have g8:w.cell? ⟨t.tb,10,none⟩=some t.qv:=R.rng 10 _ rfl;have tz:=R.row.lt;have g9:=F.qb t (Oe hi);have c4:=F.kw.size;have⟨HB,HI,H⟩:=fu F hi R;clear F hi R;go_enter func119,ntmps119
 go_wp2_with (at_builtin;refine fD rfl (.tmp 14) (.tmp 15) 26 rfl wz.heap.size 9 is _ 16 underlying26 f8 f9 g0 g3 rfl t.qv t.qs.length t.qs rfl H.o.ask aa ca asks rfl (hA.kept HB.o.kw) D5 A7 c4 ?_;intro v1 w1 a4 a5 c6;obtain⟨a6,a7,rfl⟩:=ay a4;have c7:w1.heap[t.tb]? =w.heap[t.tb]? :=a5.block _ tz (λe=>aK H.o.row.type (Yz H.o.ask e.symm) A8 rfl);have a8:=H.o.row.block c7;obtain⟨⟨_,h0⟩,h3⟩:=a8.row.at (i:=10) A7;have h4:=a8.lt;have I:=Kz (HB.o.asked HI.o (l:=asks.map Value.string) (by rw[OY];exact a4) a5 c6 (by simpa using f2));clear a4 a5 c6 c7 a8)
 obtain⟨D,a9⟩:=ai asks.length;obtain⟨A,S⟩:=ai (ts.set i {t with qv:= .slice a6 (t.qs.length+asks.length) a7,qs:=t.qs++asks.map Value.string});rw[<-S] at I;have h5:Hid ((A.map λt=>(t.tb,t.r,t.op,t.bq))= ((ts.set i {t with qs:=t.qs++asks.map Value.string}).map λt=>(t.tb,t.r,t.op,t.bq))):=by
  show _=_;rw[S,List.map_set,List.map_set]
  rfl
 have h6:Hid (A.map (·.tb)).Nodup:=I.o.tbs;have T:Hid (∃u∈A,u.tb=t.tb/\u.op=t.op):=by
  obtain⟨hl,rfl⟩:=NW.1 HI.o;exact⟨{ts[i] with qv:= .slice a6 (ts[i].qs.length+asks.length) a7,qs:=ts[i].qs++asks.map Value.string},by rw[S];exact List.mem_iff_getElem.2 ⟨i,by rw[OZ];exact hl,by rw[List.getElem_set_self]⟩,rfl,rfl⟩
 obtain⟨W1,c8⟩:=ai (w1.setCell ⟨t.tb,10,none⟩ (.slice a6 (t.qs.length+asks.length) a7));rw[<-c8] at I⊢;obtain⟨tb,b0⟩:=ai t.tb;rw[<-b0] at T⊢;have h7:=Kz b0;have h8:t.op<=1000:=f7;obtain⟨h9,c9⟩:=ai t.op;rw[<-c9] at T h8;have b1:=Kz a9;rw[<-a9];have j5:D<=5:=A7;clear c8 S b0 h0 h3 h4 g8 tz H HI HB g9 c4 c9 a9;go_wp2
 go_loopw [21] (λx wr=>∃(k:Nat) (U:List Zx) (d2:Pt) (b2:Nat) (E:Ps->Pw) (p:Ps->List Nat),k<=D/\x= .a k/\BM G Kj wz wr bb a cap rd rn rc mb (mx+1+k) U d2 b2 E p/\qi Kj A ws tb (asks.take k) (asks.take k) U p) (λx _=>D-(intOf x).toNat)
 case atStart=>
  obtain⟨u,c,V,_⟩:=T.o;exact⟨0,A,d,dc,f,ws,NS _,rfl,I.o,by rw[<-V];exact qi.start c⟩
 case round=>
  clear I;obtain⟨k,U,d2,b2,E,p,hk,rfl,J,W⟩:=hrel;by_cases j6:k<D;rotate_left
  .obtain rfl:k=D:=A7;have X:asks.take k=asks:=by rw[b1.o];exact Ox
   rw[X] at W;go_wp2
   go_end0
   exact⟨rfl,A,U,d2,b2,E,p,h5.o,J.more A7,by rw[<-h7.o];exact W⟩
  obtain⟨n,L⟩:∃n,asks[k]? =some n:=⟨_,NV (by have:=b1.o;omega)⟩;have i0:n∈asks:=Oe L;have j7:=f3 n i0;have X:asks.take (k+1)=asks.take k++ [n]:=by
   obtain⟨h1,h2⟩:=NW.1 L;rw[NY h1,h2]
  have d0:n∉asks.take k:=λh=>by
   obtain⟨h1,h2⟩:=NW.1 L;obtain⟨q,hq,e⟩:=Oc h;rw[Oo] at hq;rw[OA] at e;exact Ob.1 f4 q k A7 h1 A7 (e.trans h2.symm)
  obtain⟨b,o,rfl,i1,d1⟩:=hA k (by have:=b1.o;omega);have i2:wr.cell? ⟨b,o+k,none⟩=some (.string n):=by
   rw[J.kw.cell i1,d1];simp[List.getD,L]
  have j8:=J.len c3;have j9:(k:Int)<(D:Int):=A7;have⟨d4,i3,d5,i4⟩:=jW X d0 J W;clear L X d0 d1 J W;go_wp2_with fail
  refine (vH d5.o n A7 A7 f5 hN).mono ?_;rintro e w3 ⟨rfl,M,d3,b3,N,b4⟩;have k0:=N.len c3;have O:=Kz (i4.o.want d5.o.asc N.asc N.tbs b4);have i5:Hid ((∃t∈M,t.r.name=n)\/Q_ Kj n=none):=by
   rcases b4 with⟨rfl,h|h⟩|⟨k1,new,rfl,hr,_⟩
   .exact .inr h
   .exact .inl h
   .exact .inl ⟨new,N_.2 (.inr A9),by rw[hr];rfl⟩
  have d6:=Kz N;clear N b4 i2;go_wp2_with fail
  refine (oG d6.o n A7 A7 i5.o).mono ?_;rintro e w4 ⟨⟨fa,tx,ok,rfl,b5⟩,k4⟩;rw[O.o.ans n] at b5;have d7:=Kz b5;have b6:=Kz (d6.o.kept k4);clear b5;cases ok;rotate_left
  .go_wp2
   go_roundw
   case rel=>exact⟨k+1,M,d3,b3,E,p,A7,C8,(b6.o.more A7).kept (ah _ _),by rw[d4.o];exact O.o.skip (by rw[d7.o];rfl)⟩
   case measure=>simp[intOf];omega
  obtain⟨va,vc,hf⟩:=ay (b6.o.jg n);obtain⟨j,m,d8,d9,k2⟩:∃(j:Nat) (m:Zx),M[j]? =some m/\m.tb=tb/\m.op<=2000:=by
   obtain⟨t0,i6,m,i7,V,i8,k3,k5⟩:=O.o.me;obtain⟨j,hj,rfl⟩:=Oc i7;refine⟨j,M[j],NV hj,i8, ?_⟩;obtain⟨u,c,g1,g2⟩:=T.o;have k6:(lg Kj A (asks.take k)).length<=5:=NT (List.length_filter_le _ _) E9;have k7:t0.op=h9:=by
    rw[<-g2];have e0:=h6.o;obtain⟨Y,e1,rfl⟩:=Oc i6;obtain⟨Z,e2,rfl⟩:=Oc c;have:Y=Z:=by
     rcases Pd Y Z with g|g|g
     .have:=Ob.1 e0 Y Z (by simpa using e1) (by simpa using e2) g;simp at this;exact Pg (V.trans g1.symm) this
     .exact g
     .have:=Ob.1 e0 Z Y (by simpa using e2) (by simpa using e1) g;simp at this;exact Pg (g1.trans V.symm) this
    subst this
    rfl
   omega
  have k8:(p n).length<=1001:=by
   rw[O.o.wt n];have:=f6 n
   split
   .rw[OD];simp;omega
   .omega
  have⟨a0,b7,B⟩:=fu hf d8 d9;clear hf d8 d9;obtain⟨W4,b8⟩:=ai (w4.alloc (.cells #[.bool fa,.string tx] 80));have a1:Hid (BM G Kj wz W4 bb a cap rd rn rc mb (mx+1+k) M d3 b3 E p):=by rw[b8];exact b6.o.kept (ah _ _)
  have e3:Hid (∀w',K_ W4 w'->w'.cell? ⟨bb,5,none⟩=some (.map (some mb))/\(Instr.lookup 117 (.map (some mb)) (.string n) false).run prog w'= .ok (.slice va (p n).length vc) w'):=λw' K=>⟨(a1.o.kept K).c5,by rw[<-a0.o];exact (a1.o.kept K).look D5⟩
  go_upto_region 7 with fail
  rw[<-b8];clear b8 k4;refine bn 14 e3.o λC KD a2=>?_
  refine ax 0 a2 ?_;refine ax 4 a2 ?_;refine ax 8 a2 ?_;refine aj 12 (λK z=>?_);go_simp
  have K5:K_ C (C.alloc (.cells #[.c tb] 70)):=ah _ _;have b9:(C.alloc (.cells #[.c tb] 70)).cell? ⟨C.heap.size,0,none⟩=some (.c tb):=Xz C #[.c tb] 70 0 _ rfl;have c0:=KD.trans K5;refine z.out _ _ (λ_=>e3.o _ c0) ?_;clear z K a2;have y:=Kz (a1.o.kept c0);obtain⟨eb,e4⟩:=ai C.heap.size;rw[<-e4] at b9⊢;generalize i9:C.alloc (.cells #[.c tb] 70)=w6 at b9 c0 y⊢;clear i9 K5 e4;have c1:=y.o.jg n;rw[a0.o] at c1;have j0:=Kz c1;have j1:=y.o.kw.size;clear c1;try simp only[upP]
  refine aj 13 (λK z=>?_);refine step_append_lies _ rfl (.tmp 46) (.tmp 48) 118 rfl wz.heap.size 70 ip _ 1 8 underlying118 g4 g5 g6 g7 rfl A8 (.slice va (p n).length vc) (p n).length ((p n).map lM) rfl j0.o ⟨eb,0,none⟩ 1 1 [lM tb] rfl rfl (λj u c=>?_) (λu c=>?_) A8 D5 A7 j1 w6.heap.size rfl ?_
  .match j,c with
   | 0,c=>simp at c;subst c;rw[OI];exact b9
   | j+1,c=>simp at c
  .simp at c;subst c;rfl
  intro g gc P e5 Q c2 k9;rw[<-a0.o] at Q c2;obtain⟨w8,l0,e6⟩:=y.o.wait (s:=n) (tb:=tb) D5 e5 Q (λx e=>by simp only[Value.ownBlock,OE] at e;subst e;rcases c2 with h | h;exact .inl h;exact .inr (Ot h.symm)) A7;have e7:=Kz e6;have e8:But (λb=>(E n).ownBlock=some b) w6 P:=But.aI Q (λb e=>e);have j2:Hid (P.cell? ⟨bb,5,none⟩=some (.map (some mb))/\(Instr.lookup 117 (.map (some mb)) (.string n) false).run prog P= .ok (.slice va (p n).length vc) P):=by
   have w':=P;exact⟨(e8.cell y.o.row.lt (λe=>aK y.o.row.type (Yz (y.o.jg n) e) A8 rfl)).trans y.o.c5,by have h:=y.o.sJ (s:=n) D5 Q;rw[a0.o] at h;exact h⟩
  refine af z (λ_=>j2.o) ?_;clear z K e6 e5 Q c2 e8;refine aj 14 (λK z=>?_);go_simp
  refine af z (λh=>Pg rfl h) ?_;clear z K;refine aG ?_;have a3:=e7.o.at b7.o;have o9:w8.cell? ⟨tb,9,none⟩=some (.a (m.op:Int)):=by rw[<-B.o];exact a3.rng 9 _ rfl
  have uz:tb<w8.heap.size:=by rw[<-B.o];exact a3.row.lt
  obtain⟨_,j3⟩:=a3.row.row.at (i:=9) A7;rw[B.o] at j3;have e9:=Kz (e7.o.store (t':={m with op:=m.op+1}) b7.o (o:=9) (v:= .a ((m.op+1:Nat):Int)) A7 rfl rfl rfl rfl rfl rfl rfl rfl rfl rfl);have f0:((m.op+1:Nat):Int)= (m.op:Int)+1:=A7;rw[f0,B.o] at e9;have f1:=Kz (O.o.wait (n:=n) (by rw[d7.o];rfl) i3.o b7.o B.o a1.o.tbs (t':={m with op:=m.op+1}) B.o rfl rfl rfl);rw[B.o] at f1;clear a3 f0;go_wp2
  go_roundw
  case rel=>exact⟨k+1,_,d3,b3,_,_,A7,C8,e9.o,by rw[d4.o];exact f1.o⟩
  case measure=>simp[intOf];omega
end
def MK(xs:List Xq)(w':Pv)(e:Ending):Prop:=∃(a:Pt) (c:Nat),e= .returned (.slice a (aW xs).length c)/\Strs w' a (aW xs)
theorem rO(w:Pv)(d:Pt)(dc:Nat)(xs:List Xq)(a5:xs.length<=1000)(M:eU w d xs):
  Calls prog 151 #[.slice d xs.length dc] w λe w'=>MK xs w' e/\K_ w w':=by
 obtain⟨N,O,P,Q,R⟩:=aY Tryz.eP;go_enter func151,ntmps151
 go_wp2
 go_loopg [3,8] xs.length (λS T U wr=>∃(i:Nat) (c:Pt) (f:Nat),T= .slice c (aW (xs.take i)).length f/\U= .a (i:Int)/\i+S=xs.length/\(aW (xs.take i)).length<=i/\K_ w wr/\Hid (wr.ownsRow w.heap.size 9 1 (.slice c (aW (xs.take i)).length f) (aW (xs.take i)).length ((aW (xs.take i)).map Value.string)))
 case atStart=>exact⟨0,none,0,rfl,rfl,A7,NQ _,K_.refl _,OO _ _ _ _⟩
 case round=>
  obtain⟨i,c,f,rfl,rfl,hi,V,p,q⟩:=hrel;by_cases a6:(i:Int)<(xs.length:Int)
  .have r:i<xs.length:=A7;obtain⟨b,o,rfl,hb,k⟩:=(M.kept p) i r;obtain⟨x,s⟩:=ai (xs.getD i Xq.zero);rw[<-s] at k;have W:=k 0 _ rfl;have t1:=k 1 _ rfl;rw[OJ] at W;have C:Hid (xs.take (i+1)=xs.take i++ [x]):=by show _=_;rw[NY r,s];simp[List.getD,r]
   obtain⟨h,t⟩:=ai (aW (xs.take i));rw[<-t] at V q⊢;have D:=Kz t;clear k s t;obtain⟨a,j⟩:=ai (wr.alloc (.cells #[.bool x.fail,.string x.text] 80));have E:K_ wr a:=by rw[j];exact ah _ _
   have v:a.cell? ⟨wr.heap.size,0,none⟩=some (.bool x.fail):=by rw[j];exact Xz wr #[.bool x.fail,.string x.text] 80 0 _ rfl
   have X:a.cell? ⟨wr.heap.size,1,none⟩=some (.string x.text):=by rw[j];exact Xz wr #[.bool x.fail,.string x.text] 80 1 _ rfl
   have Y:wr.heap.size<a.heap.size:=by rw[j];simp
   go_upto_region 5 with fail
   rw[<-j];clear j;obtain⟨fb,F⟩:=ai wr.heap.size;rw[<-F] at v X Y⊢;clear F;have G:=Kz (ak q.o E);have H:=p.trans E;cases l:x.fail
   .rw[l] at v;have y:K_ a (a.alloc (.cells #[.string x.text] 9)):=ah _ _;have I:=Kz (ak G.o y);have J:=Kz (H.trans y);have Z:w.heap.size<=(a.alloc (.cells #[.string x.text] 9)).heap.size:=J.out.size;have a0:Hid (∀m u,([.string x.text]:List Pw)[m]? =some u->(a.alloc (.cells #[.string x.text] 9)).cell? ((⟨a.heap.size,0,none⟩:Addr).add m)=some u):=λm u n=>by rw[OI];exact Xz a #[.string x.text] 9 m u n
    have a1:Hid (∀u∈([.string x.text]:List Pw),u.oneCell'=true):=λu n=>by simp only[OL,OM,or_false] at n;subst n;rfl
    clear y;go_wp2_with (at_builtin;refine wpList_append_own _ rfl (.tmp 15) (.tmp 18) 26 rfl w.heap.size 9 N _ 1 16 underlying26 O P Q R rfl A8 (.slice c h.length f) h.length (h.map Value.string) rfl I.o ⟨a.heap.size,0,none⟩ 1 1 [.string x.text] rfl rfl a0.o a1.o D5 A7 Z ?_;intro v' w6 z K _;have KP:=aL J.out (NQ _) I.o K;have HP:=Kz z;obtain⟨a2,a3,rfl⟩:=ay z;clear z K)
    go_roundg (gk-1)
    case measure=>omega
    case rel=>
     have e:aW (xs.take (i+1))=h++ [x.text]:=by rw[C.o,mD,<-D.o,l];rfl
     exact⟨i+1,a2,a3,by rw[e,OD];rfl,C8,A7,by rw[e,OD];show h.length+1<=i+1;omega,KP,Kz (by rw[e,Pi,OD];exact HP.o)⟩
   .rw[l] at v;go_wp2
    go_roundg (gk-1)
    case measure=>omega
    case rel=>
     have e:aW (xs.take (i+1))=h:=by rw[C.o,mD,<-D.o,l];simp
     exact⟨i+1,c,f,by rw[e],C8,A7,by rw[e];omega,H,Kz (by rw[e];exact G.o)⟩
  .have a4:i=xs.length:=A7;obtain⟨a9,c9,A,B⟩:=bv q.o;simp only[OG,true_and] at A;rw[<-A.1] at B;have L:=Kz B;clear B A;go_wp2
   go_ret
   rw[a4,Ox] at L;exact⟨⟨c,f,rfl,L.o⟩,p⟩
section
variable {G : bV} {Kj : List Qq} {wz w w' : Pv} {bb : Nat} {a : Pt} {cap : Nat} {rd : Pt} {rn rc : Nat} {mb mx : Nat} {ts : List Zx} {d : Pt} {dc : Nat} {f : Ps -> Pw} {ws : Ps -> List Nat}
theorem BM.texts(m:BM G Kj wz w bb a cap rd rn rc mb mx ts d dc f ws){i:Nat}{t:Zx}(hi:ts[i]? =some t){w1:Pv}{c:Pw}{l:List Ps}(y:w1.ownsRow wz.heap.size 9 1 c (t.r.texts.length+l.length) (t.r.texts.map Value.string++l.map Value.string))(q:w.grownBy w1 t.tv.ownBlock)(z:∀g,c.ownBlock=some g->t.tv.ownBlock=some g\/w.heap.size<=g):
  BM G Kj wz (w1.setCell ⟨t.tb,6,none⟩ c) bb a cap rd rn rc mb mx (ts.set i {t with tv:=c,r:={t.r with texts:=t.r.texts++l}}) d dc f ws:=by
 obtain⟨n,rfl⟩:=NW.1 hi;have h:=m.fE _ (Oa n);have k:=m.zW _ (Oa n);have H:But (λb=>b=ts[i].tb\/b∈ts[i].own) w w1:=But.aI q (λb e=>.inr (N_.2 (.inl (Oz.2 e))));have I:But (λb=>b=ts[i].tb\/b∈ts[i].own) w (w1.setCell ⟨ts[i].tb,6,none⟩ c):=But.set H (p:=⟨ts[i].tb,6,none⟩) (.inl rfl) c;have A:w1.heap[ts[i].tb]? =w.heap[ts[i].tb]? :=q.block _ h.row.lt (λe=>aK h.row.type (Yz h.txt e.symm) A8 rfl);have s:aB w1 ts[i].tb 75 12:=h.row.block A;have J:w1.rangeAt ts[i].tb 0 ts[i].cells:=λK u v=>(Od (w:=w) A).trans (h.rng K u v)
 have B:∀{b:Nat},bf w1 b 9->b≠ts[i].tb:=λv=>aK v s.type A8
 have C:But (λb=>b=ts[i].tb) w1 (w1.setCell ⟨ts[i].tb,6,none⟩ c):=But.set (S:=λb=>b=ts[i].tb) (But.au (K_.refl w1)) (p:=⟨ts[i].tb,6,none⟩) rfl c;have D:w1.ownsRow wz.heap.size 9 1 ts[i].qv ts[i].qs.length ts[i].qs:=(But.aI (S:=λb=>ts[i].tv.ownBlock=some b) q (λb e=>e)).owns h.ask (λb e L=>by
  have M:b∈ts[i].tv.ownBlock.toList:=Oz.2 L;have N:b∈ts[i].qv.ownBlock.toList:=Oz.2 e;unfold Zx.own at k;exact (List.nodup_append.1 k).2.2 b M b N rfl)
 refine m.turn n I (λb O=>O) ⟨s.set c,nG J s.row A7 c, ?_,C.owns D (λb e=>B (Yz D e)),h.low⟩ rfl rfl rfl rfl rfl (λx j=>?_) ?_ (by have:=m.qb ts[i] (Oa n);exact this)
 .show World.ownsRow _ _ _ _ c (ts[i].r.texts++l).length ((ts[i].r.texts++l).map Value.string);rw[OD,Pi];exact C.owns y (λb e=>B (Yz y e))
 .unfold Zx.own at j⊢;rcases N_.1 j with j|j
  .rcases z x (Oz.1 j) with e|e
   .exact .inl (N_.2 (.inl (Oz.2 e)))
   .exact .inr e
  .exact .inl (N_.2 (.inr j))
 .unfold Zx.own at k⊢;rw[List.nodup_append] at k⊢;refine⟨?_,k.2.1,λx j E F=>?_⟩
  .show (c.ownBlock.toList).Nodup;cases c.ownBlock <;> simp
  .rcases z x (Oz.1 j) with e|e
   .exact k.2.2 x (Oz.2 e) E F
   .have:=(h.ask.lt E (Oz.1 F)).2;omega
end
theorem rQ{W:bR}{σ:Env}:∀{l:List Ps} {xs:List Xq},Yq W σ l=some xs->xs.length=l.length/\∀k,k<l.length->aP W σ (l.getD k ByteArray.empty)=some (xs.getD k Xq.zero)
 | [],xs,h=>by
  unfold Yq at h;cases h;exact⟨rfl,λk a=>aT a⟩
 | n :: l,xs,h=>by
  unfold Yq at h;cases b:aP W σ n with
  | none=>rw[b] at h;cases h
  | some x=>
   rw[b] at h;simp only at h;cases c:Yq W σ l with
   | none=>rw[c] at h;cases h
   | some ys=>
    rw[c] at h;simp only[OE] at h;subst h;obtain⟨d,e⟩:=rQ c;refine⟨by simp[d],λk a=>?_⟩;cases k with
    | zero=>simpa using b
    | succ k=>simpa using e k (by simpa using a)
section
variable {G : bV} {Kj : List Qq} {wz w w' : Pv} {bb : Nat} {a : Pt} {cap : Nat} {rd : Pt} {rn rc : Nat} {mb mx : Nat} {ts : List Zx} {d : Pt} {dc : Nat} {f : Ps -> Pw} {ws : Ps -> List Nat}
def LZ(G:bV)(Kj:List Qq)(wz:Pv)(bb:Nat)(a:Pt)(cap:Nat)(rd:Pt)(rn rc mb mx:Nat)(ts:List Zx)(d:Pt)(dc:Nat)(f:Ps->Pw)(ws:Ps->List Nat)(i:Nat)(t:Zx)(g:b_)(xs:List Xq)(w':Pv)(e:Ending):Prop:=
 (g.over=true/\e= .returned (.bool false)/\∃bl,(bl∈(stepOf ⟨t.cost,t.steps⟩ t.r.at').asks/\g.text= (⟨#[98,101,108,111,119,32]⟩:Ps)++bl)/\BM G Kj wz w' bb a cap rd rn rc mb mx (iN (ts.set i (({t with bl:=bl}:Zx).ended true g.text)) (ws t.r.name)) d dc (λn=>if n=t.r.name then J3 else f n) (λn=>if n=t.r.name then [] else ws n))\/
 (g.over=false/\e= .returned (.bool true)/\∃tv',BM G Kj wz w' bb a cap rd rn rc mb mx (ts.set i {t with tv:=tv',r:={t.r with at':=g.at',texts:=t.r.texts++aW xs}}) d dc f ws)
theorem zn(C:BM G Kj wz w bb a cap rd rn rc mb mx ts d dc f ws){i:Nat}{t:Zx}(hi:ts[i]? =some t)(s:Xj)(hs:s=stepOf ⟨t.cost,t.steps⟩ t.r.at')(p6:0<=t.r.at')(h1:t.r.at' < t.steps.length)(e8:s.fin=false)(xs:List Xq)(i9:Yq (Q_ Kj) (Qj (Qk ts)) s.asks=some xs)(f2:∀x∈xs,x.text.size<=200)(f5:Followed s xs (bQ s xs))(hF:s.Fits)(p7:s.asks.length<=5)(f7:∀x∈s.asks,x.size<=20)(j0:s.asks.length≠0->0<=s.on/\s.on<s.asks.length)(j1:Kj.length<=60)(p8:t.r.texts.length<=1000)
  (j2:t.r.name.size<=1000) (j3:(ws t.r.name).length<=1000) (hw:∀b∈ws t.r.name,∃(j:Nat) (u:Zx),j≠i/\ts[j]? =some u/\u.tb=b/\1<=u.op/\u.op<=1000) (j4:(ws t.r.name).Nodup):
  Calls prog 117 #[.c bb,.c t.tb] w λe w'=>LZ G Kj wz bb a cap rd rn rc mb mx ts d dc f ws i t (bQ s xs) xs w' e:=by
 obtain⟨ia,j5,j6,j7,j8⟩:=aY Tryz.yO;obtain⟨is,j9,k0,k1,k2⟩:=aY Tryz.eP;obtain⟨h,b5⟩:∃h:Nat,t.r.at'= (h:Int):=⟨t.r.at'.toNat,A7⟩;have k3:h<t.steps.length:=A7;have hT:=C.at hi;have f8:=C.act t (Oe hi);obtain⟨y,z,cs,f9,R,L,H,F,M,N,rfl,b6,b7,_⟩:=f8.2 h k3;have g0:t.steps.getD h Xj.zero=s:=by rw[hs];unfold stepOf;rw[b5];rfl
 rw[g0] at L b6 b7;have b8:J4 w t.tb 8 (.slice t.sa t.steps.length t.sc):=hT.rng 8 _ rfl;have b9:J4 w t.tb 4 (.a t.r.at'):=hT.rng 4 _ rfl;rw[f9] at b8;rw[b5] at b9;have tz:=hT.row.lt;have X:y<w.heap.size:=NR R C.kw.size;have t0:J4 w y (z+h*8) (.slice H s.asks.length F):=(C.kw.cell R).trans (L 0 _ rfl);have t1:J4 w y (z+h*8+1) (.a s.on):=(C.kw.cell R).trans (L 1 _ rfl);have t2:J4 w y (z+h*8+2) (.slice M s.cases.length N):=(C.kw.cell R).trans (L 2 _ rfl);have t3:J4 w y (z+h*8+3) (.a s.els):=(C.kw.cell R).trans (L 3 _ rfl);have t4:J4 w y (z+h*8+4) (.a s.fall):=(C.kw.cell R).trans (L 4 _ rfl);have t5:w.cell? ⟨y,z+h*8+5,none⟩=some (.bool false):=by rw[<-e8];exact (C.kw.cell R).trans (L 5 _ rfl)
 have t6:J4 w y (z+h*8+6) (.bool s.bad):=(C.kw.cell R).trans (L 6 _ rfl);have t7:J4 w y (z+h*8+7) (.string s.give):=(C.kw.cell R).trans (L 7 _ rfl);have g1:Hid (∀w',K_ w w'->J4 w' t.tb 8 (.slice (some ⟨y,z,none⟩) t.steps.length t.sc)/\J4 w' t.tb 4 (.a (h:Int))/\J4 w' y (z+h*8) (.slice H s.asks.length F)/\J4 w' y (z+h*8+1) (.a s.on)/\J4 w' y (z+h*8+2) (.slice M s.cases.length N)/\J4 w' y (z+h*8+3) (.a s.els)/\J4 w' y (z+h*8+4) (.a s.fall)/\J4 w' y (z+h*8+5) (.bool false)/\J4 w' y (z+h*8+6) (.bool s.bad)/\J4 w' y (z+h*8+7) (.string s.give)):=λw' K=>⟨(K.cell tz).trans b8,(K.cell tz).trans b9,(K.cell X).trans t0,(K.cell X).trans t1,(K.cell X).trans t2,(K.cell X).trans t3,(K.cell X).trans t4,(K.cell X).trans t5,(K.cell X).trans t6,(K.cell X).trans t7⟩
 obtain⟨p9,g2⟩:=rQ i9;have⟨k7,HB,HI,c1,k9⟩:=jH g2 C hi b6 b7;have⟨l0,HW,l1⟩:=fu f5 hw hs;have q0:=C.kw.size;have q1:(h:Int)<(t.steps.length:Int):=A7;have q2:=C.len j1;clear C hi hT f8 f9 L b6 b7 g0 b8 b9 t0 t1 t2 t3 t4 t5 t6 t7 g2 f5 hw b5 hs;go_enter func117,ntmps117
 go_upto_region 1 with fail
 refine bn 13 g1.o λI S n=>?_
 refine ax 0 n ?_;refine ax 4 n ?_;refine ax 8 n ?_;refine aj 12 (λK v=>?_);go_simp
 have K2:K_ I (I.alloc (.cells #[J3,.a 0,J3,.a 0,.a 0,.bool false,.bool false,.string ⟨#[]⟩] 176)):=ah _ _;have E:aB (I.alloc (.cells #[J3,.a 0,J3,.a 0,.a 0,.bool false,.bool false,.string ⟨#[]⟩] 176)) I.heap.size 176 8:=aB.made I _ _;have KE:=S.trans K2;have nz:=S.size;obtain⟨q,g3⟩:=ai I.heap.size;refine v.out _ _ (λ_=>g1.o _ KE) ?_;clear v K n;rw[<-g3] at E nz⊢;generalize l2:I.alloc (.cells #[J3,.a 0,J3,.a 0,.a 0,.bool false,.bool false,.string ⟨#[]⟩] 176)=wE at E KE⊢;clear l2 K2 g3;try simp only[upP]
 obtain⟨⟨_,v0⟩,f0⟩:=E.row.at (i:=0) A7;obtain⟨⟨_,v1⟩,f1⟩:=E.row.at (i:=1) A7;obtain⟨⟨_,v2⟩,l3⟩:=E.row.at (i:=2) A7;obtain⟨⟨_,v3⟩,f3⟩:=E.row.at (i:=3) A7;obtain⟨⟨_,v4⟩,f4⟩:=E.row.at (i:=4) A7;obtain⟨⟨_,v5⟩,l4⟩:=E.row.at (i:=5) A7;obtain⟨⟨_,v6⟩,f6⟩:=E.row.at (i:=6) A7;obtain⟨⟨_,v7⟩,l5⟩:=E.row.at (i:=7) A7;have vz:=E.lt;refine aj 13 (λK v=>?_);go_simp
 refine af v (λJ=>Pg rfl J) ?_;clear v K;refine aG ?_;have O:=Kz (NU wE q 0 [.slice H s.asks.length F,.a s.on,.slice M s.cases.length N,.a s.els,.a s.fall,.bool false,.bool s.bad,.string s.give] (E.row.there (o:=0) (m:=8) (NQ _)));have Y:=Kz (bJ (g:=q) nz [.slice H s.asks.length F,.a s.on,.slice M s.cases.length N,.a s.els,.a s.fall,.bool false,.bool s.bad,.string s.give] 0 KE);have g4:=Kz (aB.sets [.slice H s.asks.length F,.a s.on,.slice M s.cases.length N,.a s.els,.a s.fall,.bool false,.bool s.bad,.string s.give] 0 E);obtain⟨T,c2⟩:=ai (wE.setCells q 0 [.slice H s.asks.length F,.a s.on,.slice M s.cases.length N,.a s.els,.a s.fall,.bool false,.bool s.bad,.string s.give]);rw[<-c2] at O Y g4;go_upto_region 2 with fail
 have g5:((((((((wE.setCell ⟨q,0,none⟩ (.slice H s.asks.length F)).setCell ⟨q,1,none⟩ (.a s.on)).setCell ⟨q,2,none⟩ (.slice M s.cases.length N)).setCell ⟨q,3,none⟩ (.a s.els)).setCell ⟨q,4,none⟩ (.a s.fall)).setCell ⟨q,5,none⟩ (.bool false)).setCell ⟨q,6,none⟩ (.bool s.bad)).setCell ⟨q,7,none⟩ (.string s.give))=T:=by rw[c2];rfl
 rw[g5];clear g5 c2 v0 v1 v2 v3 v4 v5 v6 v7 f0 f1 l3 f3 f4 l4 f6 l5 vz E KE nz S;have c3:=Kz (HB.o.kept Y.o);have l6:J4 T q 0 (.slice H s.asks.length F):=O.o 0 _ rfl;have U:=g4.o.lt;have g6:Hid (∀w',K_ T w'->J4 w' q 0 (.slice H s.asks.length F)/\J4 w' q 1 (.a s.on)/\J4 w' q 2 (.slice M s.cases.length N)/\J4 w' q 3 (.a s.els)/\J4 w' q 4 (.a s.fall)/\J4 w' q 5 (.bool false)/\J4 w' q 6 (.bool s.bad)/\J4 w' q 7 (.string s.give)):=λw' K=>⟨(K.cell U).trans (O.o 0 _ rfl),(K.cell U).trans (O.o 1 _ rfl),(K.cell U).trans (O.o 2 _ rfl),(K.cell U).trans (O.o 3 _ rfl),(K.cell U).trans (O.o 4 _ rfl),(K.cell U).trans (O.o 5 _ rfl),(K.cell U).trans (O.o 6 _ rfl),(K.cell U).trans (O.o 7 _ rfl)⟩
 go_wp2
 go_loopg [6,27] s.asks.length (λgg x6 l7 wr=>∃(k:Nat) (V:Pt) (cv:Nat),x6= .slice V k cv/\l7= .a (k:Int)/\k+gg=s.asks.length/\K_ T wr/\Hid (wr.ownsRow T.heap.size 80 2 (.slice V k cv) k (bO (xs.take k))))
 case atStart=>exact⟨0,none,0,rfl,rfl,A7,K_.refl _,OO _ _ _ _⟩
 case round=>
  obtain⟨k,V,cv,rfl,rfl,q3,Kr,HO⟩:=hrel;by_cases q4:(k:Int)<(s.asks.length:Int)
  .have a8:k<s.asks.length:=A7;obtain⟨a1,Z⟩:=ai (s.asks.getD k ByteArray.empty);obtain⟨x,hx⟩:=ai (xs.getD k Xq.zero);have a0:=k7.o k a8;rw[<-Z,<-hx] at a0;obtain⟨b,o,rfl,c4,a2⟩:=c1.o k a8;rw[<-Z] at a2;have l8:=HB.o.kw.trans (Y.o.trans Kr);have c0:J4 wr b (o+k) (.string a1):=(l8.cell c4).trans a2;have q5:a1.size<=20:=by rw[Z];simp only[List.getD,NV a8,Ph];exact f7 _ (Oa a8)
   have l9:Hid (xs.take (k+1)=xs.take k++ [x]):=by
    show _=_;rw[NY A7,hx];simp[List.getD,(A7:k<xs.length)]
   have c5:Hid ((∃t∈ts,t.r.name=a1)\/Q_ Kj a1=none):=by
    cases hA:Q_ Kj a1 with
    | none=>exact .inr rfl
    | some A=>
     refine .inl ?_;unfold aP at a0;rw[hA] at a0;simp only at a0;cases he:Qj (Qk ts) a1 with
     | none=>rw[he] at a0;cases a0
     | some r=>
      obtain⟨h1,h2⟩:=aN he;obtain⟨u,hu,rfl⟩:=Oq.1 h1;exact⟨u,hu,h2⟩
   have m0:=Kz a0;clear Z hx a0 a2;go_wp2_with fail
   refine (oG (c3.o.kept Kr) a1 A7 A7 c5.o).mono ?_;rintro e w4 ⟨⟨fa,tx,ok,rfl,a6⟩,k4⟩;rw[m0.o] at a6;cases ok
   .simp at a6
   simp only[if_true,OE] at a6;have K4:=Kr.trans k4;have m1:=Kz (ak HO.o k4);have HX:Hid (x= ⟨fa,tx⟩):=a6;clear a6 c0;obtain⟨W5,b0⟩:=ai ((w4.alloc (.cells #[.bool fa,.string tx] 80)).alloc (.cells #[.bool fa,.string tx] 80));have K5:K_ w4 W5:=by rw[b0];exact (ah _ _).alloc _
   have g7:=Kz (ak m1.o K5);have KK:=Kz (K4.trans K5);have m2:T.heap.size<=W5.heap.size:=KK.out.size;have m3:Hid (∀j u,([.bool fa,.string tx]:List Pw)[j]? =some u->W5.cell? ((⟨w4.heap.size+1,0,none⟩:Addr).add j)=some u):=λj u hu=>by
    rw[OI,b0];have:=Xz (w4.alloc (.cells #[.bool fa,.string tx] 80)) #[.bool fa,.string tx] 80 j u hu;rw[OC] at this;exact this
   have m4:Hid (∀u∈([.bool fa,.string tx]:List Pw),u.oneCell'=true):=λu hu=>by simp only[OL,OM,or_false] at hu;rcases hu with rfl | rfl <;> rfl
   have q6:k<=5:=A7;have m5:=Kz b0;clear b0;go_wp2_with (at_builtin;rw[<-m5.o];refine wpList_append_own _ rfl (.tmp 37) (.tmp 39) 181 rfl T.heap.size 80 ia _ 2 24 underlying181 j5 j6 j7 j8 rfl A8 (.slice V k cv) k (bO (xs.take k)) rfl g7.o ⟨w4.heap.size+1,0,none⟩ 1 1 [.bool fa,.string tx] rfl rfl m3.o m4.o D5 A7 m2 ?_;intro v' D c6 g8 _;have KP:=aL KK.out (NQ _) g7.o g8;have HP:=Kz c6;obtain⟨m6,m7,rfl⟩:=ay c6;clear c6 g8)
   go_roundg (gk-1)
   case measure=>omega
   case rel=>exact⟨k+1,m6,m7,rfl,C8,A7,KP,Kz (by rw[l9.o,lF,HX.o];exact HP.o)⟩
  .have g9:xs.length=k:=A7;have b1:=Kz g9;have hO:=HO.o;rw[Oy A7] at hO;obtain⟨a9,m8,e9,_,a7⟩:=gH hO;simp only[OG] at e9;obtain⟨rfl,m9,rfl⟩:=e9;clear m9;have⟨q7,h0⟩:=aH a7 a7.answers;obtain⟨u0,u1,u2,u3,u4,u5,u6,u7⟩:=g6.o wr Kr;have q8:=NR U Kr.size;clear hO a7 l6 g9;go_wp2_with fail
   refine (rT wr s H M F N).mono ?_;rintro e w5 ⟨rfl,k5⟩;have K5:=Kr.trans k5;clear u0 u1 u2 u3 u4 u5 u6 u7;go_wp2_with fail
   have c7:=xA w5 s e8 H M V F N cv xs hF (c1.o.kept (HB.o.kw.trans (Y.o.trans K5))) (k9.o.kept (HB.o.kw.trans (Y.o.trans K5))) D5 (λc hc=>by have:=f2 c hc;unfold maxLen;omega) (h0.o.kept k5) j0 (λB hq=>by simp only[List.getD,List.getElem?_eq_getElem hq,Option.getD_some];exact f7 _ (List.getElem_mem hq));rw[b1.o] at c7;refine c7.mono ?_;rintro e D ⟨⟨g,rfl,c8⟩,k6⟩;have h4:bQ s xs=g:=l0.o.unique c8;have⟨h5,n0⟩:=aH h4 c8;dsimp only[b_.cells];have K6:=K5.trans k6;clear c7 c8 h4;obtain⟨W,a3⟩:=ai (D.alloc (.cells #[.a g.code,.bool g.over,.a g.at',.string g.text] 186));have h6:K_ D W:=by rw[a3];exact ah _ _
   have p1:W.cell? ⟨D.heap.size,1,none⟩=some (.bool g.over):=by rw[a3];exact Xz D #[.a g.code,.bool g.over,.a g.at',.string g.text] 186 1 _ rfl
   have p2:W.cell? ⟨D.heap.size,2,none⟩=some (.a g.at'):=by rw[a3];exact Xz D #[.a g.code,.bool g.over,.a g.at',.string g.text] 186 2 _ rfl
   have p3:W.cell? ⟨D.heap.size,3,none⟩=some (.string g.text):=by rw[a3];exact Xz D #[.a g.code,.bool g.over,.a g.at',.string g.text] 186 3 _ rfl
   have h7:D.heap.size<W.heap.size:=by rw[a3];simp
   go_upto_region 10 with fail
   rw[<-a3];clear a3;have K7:=K6.trans h6;have h8:K_ wr W:=(k5.trans k6).trans h6;have c5:=h0;have n1:Hid (∀(c9:Pw) (b:Nat),b<T.heap.size->eU (W.setCell ⟨b,4,none⟩ c9) V xs):=λc9 b hb=>by
    have h1:=ak HO.o h8;rw[Oy (by have:=b1.o;omega)] at h1;obtain⟨a9,m8,e9,_,a7⟩:=gH (eG h1 (p:=⟨b,4,none⟩) hb c9);simp only[OG] at e9;rw[e9.1];exact a7.answers
   cases P:g.over
   .rw[P] at p1;have d0:=c3.o.kept K7;have d1:=d0.at HI.o;obtain⟨⟨_,x4⟩,f4⟩:=d1.row.row.at (i:=4) A7;have n2:=d1.row.lt;have b2:=Kz (d0.store (t':={t with r:={t.r with at':=g.at'}}) HI.o (o:=4) (v:= .a g.at') A7 rfl rfl rfl rfl rfl rfl rfl rfl rfl rfl);clear d0 d1;go_upto_region 15 with fail
    obtain⟨w8,d2⟩:=ai (W.setCell ⟨t.tb,4,none⟩ (.a g.at'));have n3:t.tb<T.heap.size:=NR tz Y.o.size;have n4:Hid (eU w8 V xs):=by rw[d2];exact n1.o _ _ n3
    rw[<-d2] at b2⊢;clear d2 x4 f4 n2 p1 p2 p3;have d3:i<ts.length:=(NW.1 HI.o).1;have b3:Hid ((ts.set i {t with r:={t.r with at':=g.at'}})[i]? =some {t with r:={t.r with at':=g.at'}}):=O_ d3;have n5:=Kz (b2.o.at b3.o);obtain⟨ta,tc,n6⟩:=ay n5.o.txt;have q9:=Kz n6;have h9:Hid (∀w',K_ w8 w'->J4 w' t.tb 6 (t.tv)):=λw' K=>((b2.o.kept K).at b3.o).rng 6 _ rfl
    refine bn 12 h9.o λI S n=>?_
    refine ax 0 n ?_;refine ae 4 n ?_;refine ae 5 n ?_;refine ae 6 n ?_;refine aF 7 (λK v=>?_);go_simp
    go_at_call 151
    have d4:=rO I V cv xs A7 (n4.o.kept S);rw[b1.o] at d4;refine d4.mono ?_;rintro e w9 ⟨⟨ga,gc,rfl,i0⟩,n7⟩;have K9:=S.trans n7;have a4:=Kz (b2.o.kept K9);have a5:=Kz (a4.o.at b3.o);have n8:=Kz i0;have d5:=a4.o.kw.size;have r0:(aW xs).length<=5:=by have:=List.length_filter_le (λx:Xq=>!x.fail) xs;unfold aW;rw[OY];omega
    refine af v (λ_=>h9.o _ K9) ?_;clear v K n d4 i0;refine aF 8 (λK v=>?_);refine dY (.tmp 73) (.tmp 75) 26 rfl wz.heap.size 9 is _ 16 underlying26 j9 k0 k1 k2 rfl t.tv t.r.texts.length (t.r.texts.map Value.string) rfl a5.o.txt ga gc (aW xs) rfl n8.o D5 A7 d5 ?_;intro v' wA d6 d7 i1;obtain⟨va,vc,rfl⟩:=ay d6;have n9:=Kz (a4.o.texts (l:=aW xs) b3.o d6 d7 i1);have d8:wA.heap[t.tb]? =w9.heap[t.tb]? :=d7.block _ a5.o.row.lt (λe=>aK a5.o.row.type (Yz a5.o.txt e.symm) A8 rfl);have d9:aB wA t.tb 75 12:=a5.o.row.block d8;have i2:Hid (J4 wA t.tb 6 t.tv):=(Od (w:=w9) d8).trans (a5.o.rng 6 _ rfl);obtain⟨⟨_,x6⟩,f6⟩:=d9.row.at (i:=6) A7;have r1:=d9.lt;refine v.out _ _ (λ_=>i2.o) ?_;clear v K d6 d7 i1 d8 d9;have n:=i2.o;try simp only[upP]
    refine ae 9 n ?_;refine ae 10 n ?_;refine ae 11 n ?_;refine aj 12 (λK v=>?_);go_simp
    refine af v (λJ=>Pg rfl J) ?_;clear v K n;refine aG ?_;have e0:=n9.o;rw[List.set_set] at e0;have o0:=Kz e0;clear e0;go_wp2
    go_ret
    rw[h5.o];exact .inr ⟨P,rfl,.slice va (t.r.texts.length+ (aW xs).length) vc,o0.o⟩
   .rw[P] at p1;obtain⟨B,o1,e1,i3,i4⟩:∃B,B<xs.length/\iG (xs.getD B Xq.zero)/\mR xs iG B/\g.text=jY s B:=by
     rcases n0.o with⟨_,e⟩|⟨_,⟨B,h1,h2,h3,⟨_,e⟩|⟨_,e⟩⟩|⟨_,r,_,e⟩⟩
     .rw[e] at P;cases P
     .exact⟨B,h1,h2,h3,by rw[e]⟩
     .rw[e] at P;cases P
     .rw[e] at P;cases P
    have e2:B<s.asks.length:=A7;obtain⟨b,o,rfl,c4,a2⟩:=c1.o B e2;obtain⟨Q,b4⟩:=ai (s.asks.getD B ByteArray.empty);rw[<-b4] at a2;have o2:Hid (Q∈(stepOf ⟨t.cost,t.steps⟩ t.r.at').asks/\g.text= (⟨#[98,101,108,111,119,32]⟩:Ps)++Q):=by
     refine⟨?_,by rw[i4,b4];rfl⟩;rw[<-l1.o,b4];simp only[List.getD,NV e2,Ph];exact Oa e2
    have e3:Hid (∀w',K_ W w'->J4 w' q 0 (.slice (some ⟨b,o,none⟩) s.asks.length F)/\J4 w' b (o+B) (.string Q)):=λw' K=>⟨(g6.o w' (K7.trans K)).1,((HB.o.kw.trans (Y.o.trans (K7.trans K))).cell c4).trans a2⟩
    have o3:Hid (∀r,Ba xs iG r->r= (B:Int)):=λr hr=>by
     rcases hr with⟨j,hj,rfl,hp,Z⟩|⟨_,Z⟩
     .rcases Pd j B with J|J|J
      .exact Pg hp (i3 j J)
      .rw[J]
      .exact Pg e1 (Z B J)
     .exact Pg e1 (Z B o1)
    have r2:(B:Int)<(s.asks.length:Int):=A7;clear a2 b4 e1 i3 i4;go_upto_region 11 with fail
    refine bn 9 e3.o λI S n=>?_
    refine ax 0 n ?_;refine aF 4 (λK v=>?_);go_simp
    go_at_call 167
    have e4:=AB I V cv xs D5 (λc hc=>by have:=f2 c hc;unfold maxLen;omega) (c5.o.kept (h8.trans S));rw[b1.o] at e4;refine e4.mono ?_;rintro e w8 ⟨⟨r8,rfl,i5⟩,k8⟩;obtain rfl:=o3.o r8 i5;have K8:=S.trans k8;refine v.out _ _ (λ_=>e3.o _ K8) ?_;clear v K n i5 e4;have n:=e3.o _ K8;try simp only[upP]
    refine ax 5 n ?_;have e5:=c3.o.kept (K7.trans K8);have e6:=e5.at HI.o;obtain⟨⟨_,o4⟩,o5⟩:=e6.row.row.at (i:=11) A7;have o6:=e6.row.lt;have a4:=Kz (e5.store (t':={t with bl:=Q}) HI.o (o:=11) (v:= .string Q) A7 rfl rfl rfl rfl rfl rfl rfl rfl rfl rfl);have p3:=(K8.cell (b:=D.heap.size) (o:=3) h7).trans p3;have i6:D.heap.size<w8.heap.size:=NR h7 K8.size;have o7:D.heap.size≠t.tb:=by have:=(HB.o.at HI.o).row.lt;have r3:=(Y.o.trans K6).size;omega
    clear e5 e6;refine aj 9 (λK v=>?_);go_simp
    refine af v (λJ=>Pg rfl J) ?_;clear v K n;refine aG ?_;have d3:i<ts.length:=(NW.1 HI.o).1;have o8:(w8.setCell ⟨t.tb,11,none⟩ (.string Q)).cell? ⟨D.heap.size,3,none⟩=some (.string g.text):=by rw[Zk o7];exact p3
    have d5:D.heap.size<(w8.setCell ⟨t.tb,11,none⟩ (.string Q)).heap.size:=by rw[size_setCell];exact i6
    obtain⟨w9,i7⟩:=ai (w8.setCell ⟨t.tb,11,none⟩ (.string Q));rw[<-i7] at a4 o8 d5⊢;clear i7 p3 o4 o5 o6 i6;go_wp2_with fail
    refine (nM a4.o (i:=i) (t:={t with bl:=Q}) (O_ d3) true g.text j2 j3 (λb hb=>?_) j4).mono ?_
    .obtain⟨j,u,i8,o9,h3,p0,p4⟩:=HW.o b hb;exact⟨j,u,by rw[Oj (Ne.symm i8),Oj (Ne.symm i8)];exact o9,h3,p0,p4⟩
    rintro e wF ⟨rfl,e7⟩;rw[List.set_set] at e7;have p5:=Kz e7;clear e7;go_wp2
    go_ret
    rw[h5.o];exact .inl ⟨P,rfl,Q,o2.o,p5.o⟩
end
variable {ts : List Zx} {i : Nat} {t : Zx}
theorem vY{t':Zx}(hi:ts[i]? =some t)(d:(ts.map (·.tb)).Nodup):∀u∈ts.set i t',u=t'\/(u∈ts/\u.tb≠t.tb):=λu f=>by
 obtain⟨b,rfl⟩:=NW.1 hi;obtain⟨j,a,rfl⟩:=Oc f;rw[OZ] at a;rw[Pq]
 split
 .exact .inl rfl
 .rename_i hne
  refine .inr ⟨Oa a,λe=>?_⟩;have c:=Ob.1 d;rcases Nat.lt_or_gt_of_ne hne with g | g
  .have:=c i j (by simpa using b) (by simpa using a) g;simp at this;exact this e.symm
  .have:=c j i (by simpa using a) (by simpa using b) g;simp at this;exact this e
theorem Ce{t':Zx}(hi:ts[i]? =some t):t'∈ts.set i t'/\∀u∈ts,u.tb≠t.tb->u∈ts.set i t':=by
 obtain⟨a,rfl⟩:=NW.1 hi;refine⟨List.mem_iff_getElem.2 ⟨i,by rw[OZ];exact a,A9⟩,λu b c=>?_⟩;obtain⟨j,e,rfl⟩:=Oc b;refine List.mem_iff_getElem.2 ⟨j,by rw[OZ];exact e, ?_⟩;rw[Pq,Pf (λf=>c (by subst f;rfl))]
variable {l : List Nat}
theorem Cz{u:Zx}:u∈iN ts l↔∃v∈ts,u=if v.tb∈l then {v with op:=v.op-1} else v:=by
 unfold iN;rw[Oq];constructor
 .rintro⟨v,a,b⟩;exact⟨v,a,b.symm⟩
 .rintro⟨v,a,b⟩;exact⟨v,a,b.symm⟩
theorem MZ{v:Zx}:(if v.tb∈l then {v with op:=v.op-1} else v:Zx).bl=v.bl:=by
 by_cases h:v.tb∈l
 .rw[Pe h]
 .rw[Pf h]
theorem MH{v:Zx}:(if v.tb∈l then {v with op:=v.op-1} else v:Zx).qs=v.qs:=by
 by_cases h:v.tb∈l
 .rw[Pe h]
 .rw[Pf h]
theorem jE{v:Zx}:(if v.tb∈l then {v with op:=v.op-1} else v:Zx).tb=v.tb/\(if v.tb∈l then {v with op:=v.op-1} else v:Zx).r=v.r:=by
 by_cases h:v.tb∈l
 .rw[Pe h];exact⟨rfl,rfl⟩
 .rw[Pf h];exact⟨rfl,rfl⟩
theorem Kv(ts:List Zx)(l:List Nat):Qk (iN ts l)=Qk ts:=by
 unfold Qk iN;rw[List.map_map]
 congr 1
 funext v
 exact jE.2
theorem Bz{l:List Qz}{r a:Qz}(q:dz l)(hi:l[i]? =some r)(c:a.name=r.name)(m:Ps):Qj (l.set i a) m=if m=r.name then some a else Qj l m:=by
 obtain⟨k,rfl⟩:=NW.1 hi;have n:=Be q k c;have s:a∈l.set i a:=List.mem_iff_getElem.2 ⟨i,by rw[OZ];exact k,A9⟩;by_cases e:m=l[i].name
 .rw[Pe e];have:=bE n s;rw[c,<-e] at this;exact this
 .rw[Pf e];cases h:Qj l m with
  | some x=>
   obtain⟨t,p⟩:=aN h;obtain⟨j,b,rfl⟩:=Oc t;have v:i≠j:=λd=>e (by subst d;exact p.symm)
   have f:l[j]∈l.set i a:=List.mem_iff_getElem.2 ⟨j,by rw[OZ];exact b,by rw[Pq,Pf v]⟩;have:=bE n f;rw[p] at this;exact this
  | none=>
   unfold Qj at h⊢;rw[List.find?_eq_none] at h⊢;intro x f;obtain⟨j,b,rfl⟩:=Oc f;rw[OZ] at b;rw[Pq]
   split
   .rw[c];simpa using λd=>e d.symm
   .exact h _ (Oa b)
theorem yX{l:List Ps}{n:Ps}(h:l.Nodup):(l.filter λa=>!decide (a=n)).length=if dM l n=true then l.length-1 else l.length:=by
 induction l with
 | nil=>simp[dM]
 | cons x l b=>
  rw[List.nodup_cons] at h;have b:=b h.2;by_cases e:x=n
  .subst e;have c:¬dM l x=true:=λg=>h.1 (bT.1 g)
   rw[Pf c] at b;rw[Pe (bT.2 A9)];simp[b]
  .have d:dM (x :: l) n=dM l n:=by simp[dM,e]
   rw[d];simp only[List.filter_cons,e,decide_false,Bool.not_false,if_true,OH];rw[b];by_cases g:dM l n=true
   .rw[Pe g,Pe g];have:0<l.length:=List.length_pos_of_mem (bT.1 g);omega
   .rw[Pf g,Pf g]
variable {ws : Ps -> List Nat} {Kj : List Qq}
theorem BS.self(h:BS Kj ts ws)(a:t∈ts)(c:aZ (Q_ Kj) (Qj (Qk ts)) t.r):t.op=0/\pend (Q_ Kj) (Qj (Qk ts)) t.r=[]/\∀s,t.tb∉ws s:=by
 have d:=h.good.good t.r (OP a);obtain⟨A,e,_⟩:=d.act;have b:=((Ah (by rw[e];rfl)).1 c).2;refine⟨by rw[h.op t a,b];rfl,b,λs f=>?_⟩;have:=(h.wt s t a).1 f;rw[b] at this;cases this
theorem BS.ended(D:aX (Q_ Kj))(h:BS Kj ts ws)(M:(ts.map (·.tb)).Nodup){t':Zx}(hi:ts[i]? =some t)(f:aZ (Q_ Kj) (Qj (Qk ts)) t.r)(j:t'.r= (Y_ (Q_ Kj) (Qj (Qk ts)) t.r).1)(E:t'.r.over=true)(F:(Y_ (Q_ Kj) (Qj (Qk ts)) t.r).2=[])(G:t'.tb=t.tb)(N:t'.op=t.op)(O:Bg (Q_ Kj) t'.r t'.bl)(P:t'.qs=t.qs):
  BS Kj (iN (ts.set i t') (ws t.r.name)) (λn=>if n=t.r.name then [] else ws n)/\Qj (Qk (iN (ts.set i t') (ws t.r.name)))=doX (Q_ Kj) (Qj (Qk ts)) t.r.name:=by
 have l:t∈ts:=Oe hi;obtain⟨Q,Y,w⟩:=h.self l f;have y:(Qk ts)[i]? =some t.r:=by unfold Qk;rw[List.getElem?_map,hi];rfl
 have R:i<ts.length:=(NW.1 hi).1;have H:t'.r.name=t.r.name:=by rw[j,bP]
 have I:Qk (iN (ts.set i t') (ws t.r.name))= (Qk ts).set i t'.r:=by rw[Kv,pR R]
 have p:Qj (Qk ts) t.r.name=some t.r:=bE h.good.asc (OP l);have z:Qj (Qk (iN (ts.set i t') (ws t.r.name)))=doX (Q_ Kj) (Qj (Qk ts)) t.r.name:=by
  funext m
  rw[I,Bz h.good.asc y H,ed p,j];by_cases e:m=t.r.name
  .rw[Pe e,Pe e]
  .rw[Pf e,Pf e];cases Qj (Qk ts) m with
   | some x=>rfl
   | none=>
    simp only;rw[Pf (by rw[F];simp[dM])]
 have J:=h.good.good t.r (OP l);have S:(Q_ Kj t.r.name).isSome=true:=by obtain⟨T,A,_⟩:=J.act;rw[A];rfl
 have K:∀x:Qz,pend (Q_ Kj) (Qj (Qk (iN (ts.set i t') (ws t.r.name)))) x= (pend (Q_ Kj) (Qj (Qk ts)) x).filter (λa=>!decide (a=t.r.name)):=λx=>by
  rw[z,FU p f.1 S,<-j,Pe E]
 have L:∀σ,pend (Q_ Kj) σ t'.r=[]:=λσ=>by unfold pend;rw[Pe (.inl E)]
 have U:∀u∈ts,(pend (Q_ Kj) (Qj (Qk ts)) u.r).Nodup:=λu d=>by
  obtain⟨T,A,V,B⟩:=(h.good.good u.r (OP d)).act;exact Ey D A V B
 have k:∀u∈iN (ts.set i t') (ws t.r.name),u=t'\/∃v∈ts,v.tb≠t.tb/\u=if v.tb∈ws t.r.name then {v with op:=v.op-1} else v:=λu d=>by
  obtain⟨v,c,rfl⟩:=Cz.1 d;rcases vY hi M v c with rfl|⟨B,C⟩
  .left
   rw[Pf (by rw[G];exact w _)]
  .exact .inr ⟨v,B,C,rfl⟩
 refine⟨⟨⟨by rw[I];exact Be h.good.asc (NW.1 y).1 (H.trans (congrArg Qz.name (NW.1 y).2).symm),λx W=>?_⟩,λu d=>?_,λs u d=>?_,λs=>?_,λs b q=>?_,λu d=>?_,λu d=>?_⟩,z⟩
 rotate_right
 .rw[z];rcases k u d with rfl|⟨v,c,_,rfl⟩
  .have:=(h.qs t l).unit f;rw[F,List.map_nil,List.append_nil,<-j,<-P] at this;exact this.mono ⟨t.r,p,f⟩
  .rw[jE.2,MH];exact (h.qs v c).mono ⟨t.r,p,f⟩
 rotate_right
 .rcases k u d with rfl|⟨v,c,_,rfl⟩
  .exact O
  .rw[jE.2,MZ];exact h.bl v c
 .obtain⟨u,d,rfl⟩:=Oq.1 W;rcases k u d with rfl|⟨v,c,_,rfl⟩
  .rw[j];exact dm D h.good.env J f
  .rw[jE.2];exact h.good.good v.r (OP c)
 .rcases k u d with rfl|⟨v,c,X,rfl⟩
  .rw[L,N,Q];rfl
  .rw[jE.2,K,yX (U v c)];by_cases g:v.tb∈ws t.r.name
   .rw[Pe g,Pe (bT.2 ((h.wt _ v c).1 g))];show v.op-1=_;rw[h.op v c]
   .rw[Pf g,Pf (λC=>g ((h.wt _ v c).2 (bT.1 C)))];exact h.op v c
 .rcases k u d with rfl|⟨v,c,X,rfl⟩
  .rw[L];simp only[OM,iff_false];intro g
   split at g
   .cases g
   .rw[G] at g;exact w _ g
  .rw[jE.1,jE.2,K,List.mem_filter];by_cases e:s=t.r.name
   .simp[e]
   .simp only[e,if_false];rw[h.wt s v c];simp
 .by_cases e:s=t.r.name
  .rw[Pe e];exact List.nodup_nil
  .rw[Pf e];exact h.wn s
 .split at q
  .cases q
  .obtain⟨v,c,e⟩:=h.ww s b q;by_cases g:v.tb=t.tb
   .exact Pg q (by rw[<-e,g];exact w s)
   .exact⟨_,Cz.2 ⟨v,(Ce hi).2 v c g,rfl⟩,by rw[jE.1];exact e⟩
theorem rW(d:(ts.map (·.tb)).Nodup){u v:Zx}(f:u∈ts)(h:v∈ts)(e:u.tb=v.tb):u=v:=by
 obtain⟨i,a,rfl⟩:=Oc f;obtain⟨j,b,rfl⟩:=Oc h;have c:=Ob.1 d;rcases Pd i j with g|g|g
 .have:=c i j (by simpa using a) (by simpa using b) g;simp at this;exact Pg e this
 .subst g;rfl
 .have:=c j i (by simpa using b) (by simpa using a) g;simp at this;exact Pg e.symm this
variable {ts' : List Zx}
theorem Ho(h:(ts'.map λt=>(t.tb,t.r,t.op,t.bq))= (ts.map λt=>(t.tb,t.r,t.op,t.bq))):(∀u∈ts',∃v∈ts,v.tb=u.tb/\v.r=u.r/\v.op=u.op/\v.bq=u.bq)/\(∀v∈ts,∃u∈ts',u.tb=v.tb/\u.r=v.r/\u.op=v.op/\u.bq=v.bq):=by
 constructor
 .intro u b;have:(u.tb,u.r,u.op,u.bq)∈ts'.map λt=>(t.tb,t.r,t.op,t.bq):=Oq.2 ⟨u,b,rfl⟩
  rw[h] at this;obtain⟨v,c,e⟩:=Oq.1 this;simp only[Prod.mk.injEq] at e;exact⟨v,c,e.1,e.2.1,e.2.2.1,e.2.2.2⟩
 .intro v c;have:(v.tb,v.r,v.op,v.bq)∈ts.map λt=>(t.tb,t.r,t.op,t.bq):=Oq.2 ⟨v,c,rfl⟩
  rw[<-h] at this;obtain⟨u,b,e⟩:=Oq.1 this;simp only[Prod.mk.injEq] at e;exact⟨u,b,e.1,e.2.1,e.2.2.1,e.2.2.2⟩
theorem EL(h:(ts'.map λt=>(t.tb,t.r,t.op,t.bq))= (ts.map λt=>(t.tb,t.r,t.op,t.bq))):Qk ts'=Qk ts:=by
 have:=congrArg (List.map λp:Nat×Qz×Nat×Ps×List Pw=>p.2.1) h;rw[List.map_map,List.map_map] at this;exact this
theorem BS.asked(a0:aX (Q_ Kj)){ts0:List Zx}{Q:Ps->List Nat}(l:BS Kj ts ws)(R:(ts.map (·.tb)).Nodup){t1:Zx}(hi:ts[i]? =some t)(x:aZ (Q_ Kj) (Qj (Qk ts)) t.r)(F:t1.r= (Y_ (Q_ Kj) (Qj (Qk ts)) t.r).1)(S:t1.r.over=false)(hv:t1.r.Zj≠0)(a1:t1.tb=t.tb)(T:t1.op=t.op/\t1.bl=t.bl/\t1.qs=t.qs++ (Y_ (Q_ Kj) (Qj (Qk ts)) t.r).2.map Value.string)
 (a2:(ts0.map λt=>(t.tb,t.r,t.op,t.bq))= ((ts.set i t1).map λt=>(t.tb,t.r,t.op,t.bq))) (a3:dz (Qk ts')) (C:(ts'.map (·.tb)).Nodup) {A:eY} (hA:Q_ Kj t.r.name=some A) (a8:(Y_ (Q_ Kj) (Qj (Qk ts)) t.r).2= (stepOf A t1.r.at').asks) (n:qi Kj ts0 ws t.tb (Y_ (Q_ Kj) (Qj (Qk ts)) t.r).2 (Y_ (Q_ Kj) (Qj (Qk ts)) t.r).2 ts' Q):
  BS Kj ts' Q/\Qj (Qk ts')=doX (Q_ Kj) (Qj (Qk ts)) t.r.name:=by
 have G:t∈ts:=Oe hi;obtain⟨h1,h2,U⟩:=l.self G x;have a9:(Qk ts)[i]? =some t.r:=by unfold Qk;rw[List.getElem?_map,hi];rfl
 have b0:i<ts.length:=(NW.1 hi).1;have a4:t1.r.name=t.r.name:=by rw[F,bP]
 have b1:Qk ts0= (Qk ts).set i t1.r:=by rw[EL a2,pR b0]
 have M:Qj (Qk ts) t.r.name=some t.r:=bE l.good.asc (OP G);have a5:∀p,Qj (Qk ts0) p=if p=t.r.name then some t1.r else Qj (Qk ts) p:=λp=>by rw[b1];exact Bz l.good.asc a9 a4 p
 have V:Qj (Qk ts')=doX (Q_ Kj) (Qj (Qk ts)) t.r.name:=by
  funext p
  rw[n.env p,a5,ed M,F];by_cases e:p=t.r.name
  .rw[Pe e,Pe e]
  .rw[Pf e,Pf e];cases Qj (Qk ts) p <;> rfl
 have hg:=l.good.good t.r (OP G);have hw:(Q_ Kj t.r.name).isSome=true:=by rw[hA];rfl
 have a6:∀H:Qz,pend (Q_ Kj) (Qj (Qk ts')) H=pend (Q_ Kj) (Qj (Qk ts)) H:=λH=>by
  rw[V,FU M x.1 hw,<-F,Pf (by rw[S];simp)]
 have a7:pend (Q_ Kj) (Qj (Qk ts')) t1.r=lg Kj ts0 (Y_ (Q_ Kj) (Qj (Qk ts)) t.r).2:=by
  unfold pend lg;rw[Pf (by rw[S];simp[hv]),a4,hA];simp only;rw[a8]
  congr 1
  funext a
  rw[n.ans a]
 obtain⟨t0,b2,N,D,e1,z,e3,e4,e5⟩:=n.me;obtain⟨W,b3⟩:=Ho a2;have q:N.r=t1.r/\t0.op=0/\N.bl=t.bl/\N.qs=t1.qs:=by
  obtain⟨v,d,h,c,m,O⟩:=W t0 b2;rcases vY hi R v d with rfl|⟨_,g4⟩
  .exact⟨by rw[e3,<-c],by rw[<-m,T.1,h1],(congrArg Prod.fst (e5.trans O.symm)).trans T.2.1,congrArg Prod.snd (e5.trans O.symm)⟩
  .exact Pg (h.trans e1) g4
 have old:∀u∈ts',u.tb≠t.tb->(∃v∈ts,v.tb=u.tb/\v.r=u.r/\v.op=u.op/\v.bq=u.bq)\/(u.r=Qz.fresh u.r.name/\(u.op=0/\u.bq= (⟨#[]⟩,[]))/\Qj (Qk ts) u.r.name=none):=λu j P=>by
  rcases n.other u j P with⟨u0,I,h,c,m,O⟩|⟨h,c,m⟩
  .obtain⟨v,d,E,J,X,k5⟩:=W u0 I;rcases vY hi R v d with rfl|⟨k4,_⟩
   .exact Pg (h.symm.trans (E.symm.trans a1)) P
   .exact .inl ⟨v,k4,E.trans h,J.trans c,X.trans m,k5.trans O⟩
  .refine .inr ⟨h,c, ?_⟩;rw[a5] at m
   split at m
   .cases m
   .exact m
 have keep:∀v∈ts,v.tb≠t.tb->∃u∈ts',u.tb=v.tb/\u.r=v.r:=λv d P=>by
  obtain⟨u0,I,h,c,_⟩:=b3 v ((Ce hi).2 v d P);obtain⟨u,j,E,J⟩:=n.old u0 I;exact⟨u,j,E.trans h,J.trans c⟩
 have Y:∀s b,b∈Q s↔b∈ws s\/(dM (lg Kj ts0 (Y_ (Q_ Kj) (Qj (Qk ts)) t.r).2) s=true/\b=t.tb):=λs b=>by
  rw[n.wt s]
  split
  .rename_i g;simp[g]
  .rename_i g;simp[g]
 refine⟨⟨⟨a3,λH K=>?_⟩,λu j=>?_,λs u j=>?_,λs=>?_,λs b hb=>?_,λu j=>?_,λu j=>?_⟩,V⟩
 rotate_right
 .rw[V];by_cases g:u.tb=t.tb
  .have:=rW C j D (g.trans z.symm);rw[this,q.1,q.2.2.2,F,T.2.2];exact ((l.qs t G).unit x).mono ⟨t.r,M,x⟩
  .rcases old u j g with⟨v,d,_,c,_,m⟩|⟨h,c,_⟩
   .rw[<-c,<-show v.qs=u.qs from congrArg Prod.snd m];exact (l.qs v d).mono ⟨t.r,M,x⟩
   .exact xM.still (congrArg Prod.snd c.2) h
 rotate_right
 .by_cases g:u.tb=t.tb
  .have:=rW C j D (g.trans z.symm);rw[this,q.1,q.2.2.1];exact Bg.still ((l.bl t G).open x.1) S
  .rcases old u j g with⟨v,d,_,c,_,m⟩|⟨h,c,_⟩
   .rw[<-c,<-show v.bl=u.bl from congrArg Prod.fst m];exact l.bl v d
   .exact Bg.still (congrArg Prod.fst c.2) (by rw[h];rfl)
 .obtain⟨u,j,rfl⟩:=Oq.1 K;by_cases g:u.tb=t.tb
  .have:=rW C j D (g.trans z.symm);rw[this,q.1,F];exact dm a0 l.good.env hg x
  .rcases old u j g with⟨v,d,_,c,_⟩|⟨h,_,_⟩
   .rw[<-c];exact l.good.good v.r (OP d)
   .have b4:(Q_ Kj u.r.name).isSome=true:=by
     have w:=bE a3 K;rw[n.env] at w;rcases n.other u j g with⟨u0,I,E,J,_⟩|⟨_,_,X⟩
     .obtain⟨v,d,B,L,_⟩:=W u0 I;rcases vY hi R v d with rfl|⟨m4,_⟩
      .exact Pg (E.symm.trans (B.symm.trans a1)) g
      .obtain⟨b5,hB,_⟩:=(l.good.good v.r (OP m4)).act;rw[<-J,<-L,hB];rfl
     .rw[X] at w;simp only at w
      split at w
      .rename_i h6;exact h6.2
      .cases w
    rw[h];exact gD a0 b4
 .by_cases g:u.tb=t.tb
  .have:=rW C j D (g.trans z.symm);rw[this,q.1,a7,e4,q.2.1,Ow]
  .rw[a6];rcases old u j g with⟨v,d,_,c,m,_⟩|⟨h,c,_⟩
   .rw[<-c,<-m];exact l.op v d
   .rw[h,c.1,nN];rfl
 .by_cases g:u.tb=t.tb
  .have:=rW C j D (g.trans z.symm);rw[this,q.1,a7,Y,z,bT];exact⟨λk=>by rcases k with k | k;exact Pg k (U s);exact k.1,λk=>.inr ⟨k,rfl⟩⟩
  .rw[a6,Y];rcases old u j g with⟨v,d,h,c,m⟩|⟨h,c,m⟩
   .rw[<-h,<-c,<-l.wt s v d];exact⟨λk=>by rcases k with k | ⟨_,k⟩;exact k;exact Pg (h.symm.trans k) g,.inl⟩
   .rw[h,nN];simp only[OM,iff_false];rintro (k|⟨_,k⟩)
    .obtain⟨v,d,B⟩:=l.ww s u.tb k;obtain⟨u2,Z,L,m3⟩:=keep v d (λe=>g (B.symm.trans e));have:=rW C j Z (B.symm.trans L.symm);have w:=bE l.good.asc (OP (f:=λt:Zx=>t.r) d);rw[<-m3,<-this,m] at w;cases w
    .exact g k
 .rw[n.wt s]
  split
  .rw[List.nodup_append];exact⟨l.wn s,A9,λH K y hy e=>by rw[NZ] at hy;rw[e,hy] at K;exact U s K⟩
  .exact l.wn s
 .rcases (Y s b).1 hb with k|⟨_,k⟩
  .obtain⟨v,d,B⟩:=l.ww s b k;by_cases g:v.tb=t.tb
   .exact Pg k (by rw[<-B,g];exact U s)
   .obtain⟨u2,Z,L,_⟩:=keep v d g;exact⟨u2,Z,L.trans B⟩
  .exact⟨N,D,z.trans k.symm⟩
def dA(wz:Pv):Prop:=∀(W:Pv) (give:Ps) (a:Pt) (cap:Nat) (l:List Ps),K_ wz W->give.size<=maxLen->l.length<=maxLen->Strs W a l->l.length<=cap->Calls prog 118 #[.string give,.slice a l.length cap] W λe w'=>e= .returned (.string (jl give l))/\K_ W w'
theorem GV(w:Pv)(tb:Nat)(v:Int)(a:w.cell? ⟨tb,5,none⟩=some (.a v)):
  Calls prog 115 #[.c tb] w λe w'=>Says e (v=20)/\w'=w:=by
 go_enter func115,ntmps115
 go_wp2
 go_ret
 exact⟨by simp[Says],rfl⟩
theorem rC{W:bR}{σ:Env}{r:Qz}{A:eY}(h:aZ W σ r)(c:W r.name=some A)(d:r.Zj≠0):∃xs,Yq W σ (stepOf A r.at').asks=some xs:=by
 rcases h.2 with h|⟨f,xs,b,e⟩
 .exact Pg h d
 .rw[c] at b;cases b;exact⟨xs,e⟩
variable {Kj : List Qq} {ts : List Zx}
theorem BS.Nh{ws:Ps->List Nat}(h:BS Kj ts ws)(s:Ps):(ws s).length<=ts.length:=by
 have b:=List.Nodup.length_le_of_subset (h.wn s) (l₂:=ts.map (·.tb)) (λc d=>by
  obtain⟨t,f,e⟩:=h.ww s c d;exact Oq.2 ⟨t,f,e⟩)
 simpa using b
variable {t : Zx}
theorem BS.waiters(m:aX (Q_ Kj)){ws:Ps->List Nat}(h:BS Kj ts ws)(_hn:(ts.map (·.tb)).Nodup){i:Nat}(hi:ts[i]? =some t)(n:aZ (Q_ Kj) (Qj (Qk ts)) t.r):∀b∈ws t.r.name,∃(j:Nat) (u:Zx),j≠i/\ts[j]? =some u/\u.tb=b/\1<=u.op/\u.op<=1000:=λb d=>by
 obtain⟨u,c,e⟩:=h.ww _ b d;obtain⟨_,_,p⟩:=h.self (Oe hi) n;obtain⟨j,f,rfl⟩:=Oc c;have q:=(h.wt t.r.name ts[j] c).1 (by rw[e];exact d);have k:=h.op ts[j] c;refine⟨j,ts[j],λs=>?_,NV f,e, ?_, ?_⟩
 .subst s;rw[NV f] at hi;cases hi;exact p _ (by rw[e];exact d)
 .rw[k];exact List.length_pos_of_mem q
 .rw[k];obtain⟨A,l,v,w⟩:=(h.good.good ts[j].r (OP c)).act;have x:=(ja (m _ _ l).1 v w).1;unfold pend
  split
  .exact NS _
  .rw[l];simp only;have:=List.length_filter_le (λa=>(aP (Q_ Kj) (Qj (Qk ts)) a).isNone) (stepOf A ts[j].r.at').asks;omega
structure vD (Kj:List Qq) (σ:Env) (t t2:Zx):Prop where
 nx:Y_ (Q_ Kj) σ t.r= (if (stepOf ⟨t.cost,t.steps⟩ t2.r.at').fin=true then {t2.r with over:=true,fail:=(stepOf ⟨t.cost,t.steps⟩ t2.r.at').bad,text:=jl (stepOf ⟨t.cost,t.steps⟩ t2.r.at').give t2.r.texts} else t2.r,(stepOf ⟨t.cost,t.steps⟩ t2.r.at').asks)
 lo:0<=t2.r.at'
 hi:t2.r.at' < t.steps.length
 ov:t2.r.over=false
 vi:t2.r.Zj≠0
 nm:t2.r.name=t.r.name
theorem vD.first{σ:Env}{t1:Zx}(a:t1= {t with r:={t.r with Zj:=t.r.Zj+1}})(b:t.r.Zj=0)(c:Q_ Kj t.r.name=some ⟨t.cost,t.steps⟩)(d:aZ (Q_ Kj) σ t.r)(e:0<=t.r.at')(f:t.r.at' < t.steps.length):vD Kj σ t t1:=by
 subst a;refine⟨?_,e,f,d.1,by show t.r.Zj+1≠0;omega,rfl⟩;unfold Y_;rw[c];simp only;rw[Pe b]
 rfl
variable {xs : List Xq}
theorem Im{σ:Env}(a:Q_ Kj t.r.name=some ⟨t.cost,t.steps⟩)(b:t.r.Zj≠0)(e:t.r.Zj<20)(c:Yq (Q_ Kj) σ (stepOf ⟨t.cost,t.steps⟩ t.r.at').asks=some xs)(d:(bQ (stepOf ⟨t.cost,t.steps⟩ t.r.at') xs).over=true):Y_ (Q_ Kj) σ t.r= ({t.r with Zj:=t.r.Zj+1,over:=true,fail:=true,text:=(bQ (stepOf ⟨t.cost,t.steps⟩ t.r.at') xs).text},[]):=by
 unfold Y_;rw[a];simp only;rw[Pf b,c];simp only;rw[Pf A7,Pe d]
theorem vD.gone{a:Zx}(i:aX (Q_ Kj))(j:dR Kj (Qk ts))(hgd:t.r.Good Kj)(b:Q_ Kj t.r.name=some ⟨t.cost,t.steps⟩)(c:aZ (Q_ Kj) (Qj (Qk ts)) t.r)(k:t.r.Zj≠0)(q:t.r.Zj<20)(l:Yq (Q_ Kj) (Qj (Qk ts)) (stepOf ⟨t.cost,t.steps⟩ t.r.at').asks=some xs)(m:(bQ (stepOf ⟨t.cost,t.steps⟩ t.r.at') xs).over=false)(h2:a.r= {t.r with Zj:=t.r.Zj+1,at':=(bQ (stepOf ⟨t.cost,t.steps⟩ t.r.at') xs).at',texts:=t.r.texts++aW xs}):vD Kj (Qj (Qk ts)) t a:=by
 have d:Y_ (Q_ Kj) (Qj (Qk ts)) t.r= (if (stepOf ⟨t.cost,t.steps⟩ a.r.at').fin=true then {a.r with over:=true,fail:=(stepOf ⟨t.cost,t.steps⟩ a.r.at').bad,text:=jl (stepOf ⟨t.cost,t.steps⟩ a.r.at').give a.r.texts} else a.r,(stepOf ⟨t.cost,t.steps⟩ a.r.at').asks):=by
  unfold Y_;rw[b];simp only;rw[Pf k,l];simp only;rw[Pf A7,Pf (by rw[m];simp),h2]
  rfl
 have n:=(dm i j.env hgd c).act;obtain⟨s,e,f,h⟩:=n;rw[bP,b] at e;cases e;have p:(Y_ (Q_ Kj) (Qj (Qk ts)) t.r).1.at'=a.r.at':=by rw[d];simp only;split <;> rfl
 rw[p] at f h;exact⟨d,f,h,by rw[h2];exact c.1,by rw[h2];show t.r.Zj+1≠0;have:=hgd.lo;omega,by rw[h2]⟩
theorem oJ{W:bR}{σ b:Env}(h:∀a,aP W b a=aP W σ a):∀l,Yq W b l=Yq W σ l
 | []=>rfl
 | a :: l=>by unfold Yq;rw[h a,oJ h l]
theorem zI{i:Nat}{t1:Zx}(a:dz (Qk ts))(hi:ts[i]? =some t)(_ho:t.r.over=false)(b:t1= {t with r:={t.r with Zj:=t.r.Zj+1}}){l:List Ps}:Yq (Q_ Kj) (Qj (Qk (ts.set i t1))) l=Yq (Q_ Kj) (Qj (Qk ts)) l:=by
 refine oJ (λn=>?_) l;have d:i<ts.length:=(NW.1 hi).1;have c:(Qk ts)[i]? =some t.r:=by unfold Qk;rw[List.getElem?_map,hi];rfl
 unfold aP;cases Q_ Kj n with
 | none=>rfl
 | some A=>
  simp only;rw[pR d,Bz a c (by rw[b])];by_cases e:n=t.r.name
  .rw[Pe e,e,bE a (Oe c),b]
  .rw[Pf e]
variable {s : Xj}
theorem xV(f:aX (Q_ Kj))(v:∀y∈Kj,y.Fits)(a:Q_ Kj t.r.name=some ⟨t.cost,t.steps⟩)(hgd:t.r.Good Kj)(w:aZ (Q_ Kj) (Qj (Qk ts)) t.r)(z:dR Kj (Qk ts))(A:t.r.Zj≠0)(b:s=stepOf ⟨t.cost,t.steps⟩ t.r.at')(c:Yq (Q_ Kj) (Qj (Qk ts)) s.asks=some xs):
  s.Fits/\s.fin=false/\s.asks.length<=5/\(∀x∈s.asks,x.size<=20)/\(s.asks.length≠0->0<=s.on/\s.on<s.asks.length)/\yw s xs/\∀x∈xs,x.text.size<=200:=by
 obtain⟨J,i,B,d⟩:=hgd.act;rw[a] at i;cases i;have j:s.fin=false:=by rw[b];exact hgd.stp _ a w.1 A
 obtain⟨k,l⟩:=ja (f _ _ a).1 B d;rw[<-b] at k l;have m:∀x∈s.asks,x.size<=20:=λx c=>(l x c).2.1
 obtain⟨C,D⟩:=rZ z.env m c;have E:=(f _ _ a).1.2.2 t.r.at'.toNat (by dsimp only at d⊢;omega);have F:lH s t.steps.length:=by rw[b];exact E
 have G:=(F.2 j).1.2.2.2.2.2.2.2;refine⟨?_,j,k,m,λK=>?_,C,D⟩
 .obtain⟨H,n,_,_,e⟩:=gY a;simp only[eY.mk.injEq] at e;have I:=v _ (Oa n);have p:s∈(Kj.getD H Qq.zero).steps:=by
   rw[b,<-e.2];unfold stepOf;dsimp only at d⊢;have q:t.r.at'.toNat<t.steps.length:=A7;simp only[List.getD,NV q,Ph];exact Oa q
  simp only[List.getD,NV n,Ph] at p;exact I.each s p
 .rcases G with h|h
  .rw[h];omega
  .exact h
theorem step_ok{x:Int}(a:aX (Q_ Kj))(b:Q_ Kj t.r.name=some ⟨t.cost,t.steps⟩)(d:0<=x)(e:x<t.steps.length)(c:s=stepOf ⟨t.cost,t.steps⟩ x):lH s t.steps.length:=by
 rw[c];exact (a _ _ b).1.2.2 x.toNat (by dsimp only;omega)
theorem mO{x:Int}(a:aX (Q_ Kj))(b:Q_ Kj t.r.name=some ⟨t.cost,t.steps⟩)(c:0<=x)(d:x<t.steps.length)(e:s=stepOf ⟨t.cost,t.steps⟩ x)(f:s.fin=true):s.asks=[]:=
 Og.1 ((step_ok a b c d e).1 f).1
theorem vQ{x:Int}(c:aX (Q_ Kj))(d:Q_ Kj t.r.name=some ⟨t.cost,t.steps⟩)(e:0<=x)(f:x<t.steps.length)(i:s=stepOf ⟨t.cost,t.steps⟩ x):s.asks.Nodup:=by
 have h:=step_ok c d e f i;cases a:s.fin with
 | true=>rw[Og.1 (h.1 a).1];exact List.nodup_nil
 | false=>
  have j:=(h.2 a).1.2.2.2.1;rw[List.Nodup,Ob];intro k l m b n p;have:=(j l b).2 k n;simp only[List.getD,NV m,NV b,Ph] at this;exact this p
theorem Ag{x:Int}(d:∀y∈Kj,y.Fits)(f:Q_ Kj t.r.name=some ⟨t.cost,t.steps⟩)(j:0<=x)(l:x<t.steps.length)(h:s=stepOf ⟨t.cost,t.steps⟩ x):s.give.size<=maxLen:=by
 obtain⟨k,a,_,_,e⟩:=gY f;simp only[eY.mk.injEq] at e;have i:=d _ (Oa a);have b:s∈(Kj.getD k Qq.zero).steps:=by
  rw[h,<-e.2];unfold stepOf;dsimp only;have c:x.toNat<t.steps.length:=A7;simp only[List.getD,NV c,Ph];exact Oa c
 simp only[List.getD,NV a,Ph] at b;exact (i.each s b).give
theorem Ht{a:Zx}(c:aX (Q_ Kj))(d:dR Kj (Qk ts))(hgd:t.r.Good Kj)(e:aZ (Q_ Kj) (Qj (Qk ts)) t.r)(h:vD Kj (Qj (Qk ts)) t a):a.r.texts.length<=1000:=by
 have b:=dm c d.env hgd e;have f:(Y_ (Q_ Kj) (Qj (Qk ts)) t.r).1.texts=a.r.texts:=by rw[h.nx];simp only;split <;> rfl
 have i:=b.tl;have j:=b.hi;rw[f] at i;omega
def Nr(G:bV)(Kj:List Qq)(wz:Pv)(bb:Nat)(a:Pt)(cap:Nat)(rd:Pt)(rn rc mb mx:Nat)(ts:List Zx)(d:Pt)(dc:Nat)(f:Ps->Pw)(ws:Ps->List Nat)(i:Nat)(t:Zx)(b:Bool)(w':Pv):Prop:=
 (b=true/\∃ts' f' ws',BM G Kj wz w' bb a cap rd rn rc mb mx ts' d dc f' ws'/\BS Kj ts' ws'/\Qj (Qk ts')=doX (Q_ Kj) (Qj (Qk ts)) t.r.name)\/
 (b=false/\∃t2,BM G Kj wz w' bb a cap rd rn rc mb mx (ts.set i t2) d dc f ws/\t2.tb=t.tb/\(t2.op=t.op/\t2.bl=t.bl/\t2.qs=t.qs)/\t2.cost=t.cost/\t2.steps=t.steps/\vD Kj (Qj (Qk ts)) t t2)
section
variable {G : bV} {Kj : List Qq} {wz w w' : Pv} {bb : Nat} {a : Pt} {cap : Nat} {rd : Pt} {rn rc : Nat} {mb mx : Nat} {ts : List Zx} {d : Pt} {dc : Nat} {f : Ps -> Pw} {ws : Ps -> List Nat}
theorem uV(hB:BM G Kj wz w bb a cap rd rn rc mb mx ts d dc f ws)(hS:BS Kj ts ws){i:Nat}(hi:ts[i]? =some t)(hc:aZ (Q_ Kj) (Qj (Qk ts)) t.r)(E:aX (Q_ Kj))(e8:∀y∈Kj,y.Fits)(c2:Kj.length<=60)(j1:dI Kj)(hN:bN wz a Kj)(m2:mx<=90000)(j2:dA wz):
  Calls prog 59 #[.c bb,.c t.tb] w λe w'=>e= .returned (.tuple #[])/\∃ts' d' c3 f' a1,BM G Kj wz w' bb a cap rd rn rc mb (mx+6) ts' d' c3 f' a1/\BS Kj ts' a1/\Qj (Qk ts')=doX (Q_ Kj) (Qj (Qk ts)) t.r.name:=by
 have ht:t∈ts:=List.mem_of_getElem? hi;obtain⟨m3,j3,m4⟩:=hS.self ht hc;have hgd:=hS.good.good t.r (List.mem_map_of_mem ht);have hA:=(hB.act t ht).1;obtain⟨A',e9,f0,c4⟩:=hgd.act;rw[hA] at e9;cases e9;dsimp only at c4;have hT:=hB.at hi;have c5:J4 w t.tb 5 (.a t.r.Zj):=hT.rng 5 _ rfl;have tz:=hT.row.lt;obtain⟨_,f1⟩:=hT.row.row.at (i:=5) A7;have lo:=hgd.lo;have m5:=hgd.hi;have m6:=hB.len c2;have f2:i<ts.length:=(List.getElem?_eq_some_iff.1 hi).1;have c6:=Kz (hS.waiters E hB.tbs hi hc);have m7:=hS.Nh t.r.name;have c7:t.r.name.size<=1000:=by have:=(E _ _ hA).2.2.1;omega
 have⟨HB,q,F,A,x⟩:=jH hB hS hi hc hA;have HG:=Kz hgd;clear hB hS hi hc hA hT hgd j3;go_enter func59,ntmps59
 go_wp2_with fail
 refine (GV w t.tb t.r.Zj c5).mono ?_;rintro e w0 ⟨d0,f3⟩;rw[f3];clear f3 w0;rcases d0.cases with⟨rfl,a9⟩|⟨rfl,a9⟩
 .have b7:=Kz a9;clear a9 d0;go_wp2_with fail
  refine (nM HB.o F.o true gX c7 A7 (λb N=>?_) (q.o.wn _)).mono ?_
  .obtain⟨b0,u,W,b1,h3,h4,h5⟩:=c6.o b N;exact⟨b0,u,by rw[Oj (Ne.symm W)];exact b1,h3,h4,h5⟩
  rintro e wF ⟨rfl,a2⟩;have d1:=Kz a2;clear a2;go_wp2_with fail
  refine bodyPost_ret (results_none rfl _ _ _) rfl ?_;obtain⟨xs,X⟩:=rC A.o x.o (by have:=b7.o;omega);have n:Y_ (Q_ Kj) (Qj (Qk ts)) t.r= ({t.r with over:=true,fail:=true,text:=gX},[]):=by
   unfold Y_;rw[x.o];simp only;rw[Pf (by have:=b7.o;omega),X];simp only;rw[Pe b7.o]
  obtain⟨q1,q2⟩:=q.o.ended E HB.o.tbs (t':=t.ended true gX) F.o A.o (by rw[n];rfl) rfl (by rw[n]) rfl rfl (.inl ⟨(q.o.bl t (Oe F.o)).open A.o.1,λ_ _=>.inl rfl⟩) rfl;exact⟨rfl,_,d,dc,_,_,d1.o.more A7,q1,q2⟩
 .have b7:=Kz a9;have f4:t.r.Zj<20:=A7;clear a9 d0;obtain⟨O,b8⟩:∃O:Zx,O= {t with r:={t.r with Zj:=t.r.Zj+1}}:=⟨_,rfl⟩;obtain⟨W1,d2⟩:=ai (w.setCell ⟨t.tb,5,none⟩ (.a (t.r.Zj+1)));have d3:Hid (BM G Kj wz W1 bb a cap rd rn rc mb mx (ts.set i O) d dc f ws):=by rw[d2,b8];exact HB.o.store F.o A7 rfl rfl rfl rfl rfl rfl rfl rfl rfl rfl
  have f5:Hid ((ts.set i O)[i]? =some O):=O_ f2;go_upto_region 3 with fail
  rw[<-d2];clear d2;have j4:W1.cell? ⟨t.tb,5,none⟩=some (.a (t.r.Zj+1)):=by have h:=(d3.o.at f5.o).rng 5 _ rfl;rw[b8] at h;exact h
  have k:=Kz b8;clear b8;go_cut [30] from 19 to 29 (λj5 wx=>∃b:Bool,j5= .bool b/\Nr G Kj wz bb a cap rd rn rc mb mx ts d dc f ws i t b wx)
  case first=>
   by_cases a3:t.r.Zj=0
   .have j6:¬(1:Int)<t.r.Zj+1:=A7;have j7:=Kz a3;clear a3;go_wp2
    go_meet
    exact⟨false,rfl,.inr ⟨rfl,O,d3.o,by rw[k.o],by rw[k.o];exact⟨rfl,rfl,rfl⟩,by rw[k.o],by rw[k.o],vD.first k.o j7.o x.o A.o f0 c4⟩⟩
   .have j6:(1:Int)<t.r.Zj+1:=A7;have d4:=Kz a3;obtain⟨xs,X⟩:=rC A.o x.o a3;obtain⟨s,H⟩:=ai (stepOf ⟨t.cost,t.steps⟩ t.r.at');rw[<-H] at X;obtain⟨hF,P,b2,f6,f8,f9,g0⟩:=xV E e8 x.o HG.o A.o q.o.good a3 H X;have g1:Yq (Q_ Kj) (Qj (Qk (ts.set i O))) s.asks=some xs:=by rw[zI q.o.good.asc F.o A.o.1 k.o];exact X
    have j8:t.r.texts.length<=1000:=by have:=HG.o.tl;omega
    have⟨g2,a4⟩:=aH X H;have g3:=Kz (zn d3.o (t:=O) f5.o s (by rw[k.o];exact H) (by rw[k.o];exact f0) (by rw[k.o];exact c4) P xs g1 g0 (jc f9) hF b2 f6 f8 c2 (by rw[k.o];exact j8) (by rw[k.o];exact c7) (by rw[k.o];show (ws t.r.name).length<=1000;omega) (λb N=>by
     rw[k.o] at N;obtain⟨b0,u,W,b1,h3,h4,h5⟩:=c6.o b N;exact⟨b0,u,W,by rw[Oj (Ne.symm W)];exact b1,h3,h4,h5⟩) (by rw[k.o];exact q.o.wn _))
    have j9:Hid (O.tb=t.tb):=by rw[k.o];rfl
    rw[j9.o] at g3;clear a3 X H hF P b2 f6 f8 f9 g0 g1;go_wp2_with fail
    refine g3.o.mono ?_;rintro e B (⟨b3,rfl,bl,g4,b4⟩|⟨b3,rfl,m8,b4⟩)
    .have g5:=Kz g4;clear g4;have⟨d5,d6⟩:=aH b4 b3;clear b4 b3;go_wp2
     go_meet
     have b5:=d5.o;rw[k.o,List.set_set] at b5;have n:=Im x.o d4.o f4 (by rw[<-a4.o];exact g2.o) (by rw[<-a4.o];exact d6.o);obtain⟨q1,q2⟩:=q.o.ended E HB.o.tbs (t':=(({t with bl:=bl,r:={t.r with Zj:=t.r.Zj+1}}:Zx).ended true (bQ s xs).text)) F.o A.o (by rw[n,a4.o];rfl) rfl (by rw[n]) rfl rfl (.inr ⟨rfl,rfl,⟨⟨t.cost,t.steps⟩,x.o,HG.o.stp _ x.o A.o.1 d4.o,by have h:=g5.o.1;rw[k.o] at h;exact h⟩,g5.o.2⟩) rfl;exact⟨true,rfl,.inl ⟨rfl,_,_,_,b5,q1,q2⟩⟩
    .have d5:=Kz b4;have d6:=Kz b3;clear b4 b3;go_wp2
     go_meet
     have b5:=d5.o;rw[k.o,List.set_set] at b5;exact⟨false,rfl,.inr ⟨rfl,_,b5,rfl,⟨rfl,rfl,rfl⟩,rfl,rfl,vD.gone E q.o.good HG.o x.o A.o d4.o f4 (by rw[<-a4.o];exact g2.o) (by rw[<-a4.o];exact d6.o) (by rw[<-a4.o])⟩⟩
  case rest=>
   obtain⟨b,rfl,hm⟩:=hcut;obtain⟨B,rfl⟩:=ai wc;rcases hm with⟨rfl,ts',f',a1,g6,g7,g8⟩|⟨rfl,c,D,e1,g9,k0,d7,Q⟩
   .have k1:=Kz g6;have⟨k2,k3⟩:=aH g7 g8;clear g6 g7 g8;go_wp2_with fail
    refine bodyPost_ret (results_none rfl _ _ _) rfl ?_;exact⟨rfl,ts',d,dc,f',a1,k1.o.more A7,k2.o,k3.o⟩
   have b9:(ts.set i c)[i]? =some c:=O_ f2;have c0:=D.at b9;have h0:=D.act c (Oe b9);obtain⟨j,d8⟩:∃j:Nat,c.r.at'= (j:Int):=⟨c.r.at'.toNat,by have:=Q.lo;omega⟩;have k4:j<c.steps.length:=by have:=Q.hi;rw[d7];omega
   obtain⟨l,p,cs,h1,R,L,S,T,Y,Z,rfl,d9,h2,_⟩:=h0.2 j k4;obtain⟨s,H⟩:=ai (stepOf ⟨t.cost,t.steps⟩ c.r.at');have h6:c.steps.getD j Xj.zero=s:=by rw[H,d7];unfold stepOf;rw[d8];rfl
   rw[h6] at L d9 h2;have c8:B.cell? ⟨t.tb,8,none⟩=some (.slice c.sa c.steps.length c.sc):=by rw[<-e1];exact c0.rng 8 _ rfl
   have e0:B.cell? ⟨t.tb,4,none⟩=some (.a c.r.at'):=by rw[<-e1];exact c0.rng 4 _ rfl
   rw[h1] at c8;rw[d8] at e0;have h7:t.tb<B.heap.size:=by rw[<-e1];exact c0.row.lt
   have V:l<B.heap.size:=NR R D.kw.size;have y0:J4 B l (p+j*8) (.slice S s.asks.length T):=(D.kw.cell R).trans (L 0 _ rfl);have y1:J4 B l (p+j*8+1) (.a s.on):=(D.kw.cell R).trans (L 1 _ rfl);have y2:J4 B l (p+j*8+2) (.slice Y s.cases.length Z):=(D.kw.cell R).trans (L 2 _ rfl);have y3:J4 B l (p+j*8+3) (.a s.els):=(D.kw.cell R).trans (L 3 _ rfl);have y4:J4 B l (p+j*8+4) (.a s.fall):=(D.kw.cell R).trans (L 4 _ rfl);have y5:J4 B l (p+j*8+5) (.bool s.fin):=(D.kw.cell R).trans (L 5 _ rfl);have y6:J4 B l (p+j*8+6) (.bool s.bad):=(D.kw.cell R).trans (L 6 _ rfl);have y7:J4 B l (p+j*8+7) (.string s.give):=(D.kw.cell R).trans (L 7 _ rfl);have h8:Hid (∀w',K_ B w'->J4 w' t.tb 8 (.slice (some ⟨l,p,none⟩) c.steps.length c.sc)/\J4 w' t.tb 4 (.a (j:Int))/\J4 w' l (p+j*8) (.slice S s.asks.length T)/\J4 w' l (p+j*8+1) (.a s.on)/\J4 w' l (p+j*8+2) (.slice Y s.cases.length Z)/\J4 w' l (p+j*8+3) (.a s.els)/\J4 w' l (p+j*8+4) (.a s.fall)/\J4 w' l (p+j*8+5) (.bool s.fin)/\J4 w' l (p+j*8+6) (.bool s.bad)/\J4 w' l (p+j*8+7) (.string s.give)):=λw' K=>⟨(K.cell h7).trans c8,(K.cell h7).trans e0,(K.cell V).trans y0,(K.cell V).trans y1,(K.cell V).trans y2,(K.cell V).trans y3,(K.cell V).trans y4,(K.cell V).trans y5,(K.cell V).trans y6,(K.cell V).trans y7⟩
   have⟨h9,a5,k5,M,a6⟩:=jH D b9 d9 Q H;have⟨a0,E2⟩:=aH e1 g9;have m9:(j:Int)<(c.steps.length:Int):=A7;obtain⟨i0,i1⟩:=ja (E _ _ x.o).1 Q.lo (by exact Q.hi);rw[<-H] at i0 i1;have k7:s.give.size<=maxLen:=Ag e8 x.o Q.lo Q.hi H;have n0:c.r.texts.length<=1000:=Ht E q.o.good HG.o A.o Q;clear D b9 c0 h0 h1 L d9 h2 h6 c8 e0 y0 y1 y2 y3 y4 y5 y6 y7 Q d8 H e1 g9 k0 d7 j4;go_upto_region 4 with fail
   refine bn 13 h8.o λU KD I=>?_
   refine ax 0 I ?_;refine ax 4 I ?_;refine ax 8 I ?_;refine aj 12 (λK J=>?_);go_simp
   have K2:K_ U (U.alloc (.cells #[J3,.a 0,J3,.a 0,.a 0,.bool false,.bool false,.string ⟨#[]⟩] 176)):=ah _ _;have C:aB (U.alloc (.cells #[J3,.a 0,J3,.a 0,.a 0,.bool false,.bool false,.string ⟨#[]⟩] 176)) U.heap.size 176 8:=aB.made U _ _;have KE:=KD.trans K2;have nz:=KD.size;obtain⟨z,i2⟩:=ai U.heap.size;refine J.out _ _ (λ_=>h8.o _ KE) ?_;clear J K I;rw[<-i2] at C nz⊢;generalize k8:U.alloc (.cells #[J3,.a 0,J3,.a 0,.a 0,.bool false,.bool false,.string ⟨#[]⟩] 176)=wE at C KE⊢;clear k8 K2 i2;try simp only[upP]
   obtain⟨⟨_,v0⟩,k9⟩:=C.row.at (i:=0) A7;obtain⟨⟨_,v1⟩,l0⟩:=C.row.at (i:=1) A7;obtain⟨⟨_,v2⟩,l1⟩:=C.row.at (i:=2) A7;obtain⟨⟨_,v3⟩,l2⟩:=C.row.at (i:=3) A7;obtain⟨⟨_,v4⟩,l3⟩:=C.row.at (i:=4) A7;obtain⟨⟨_,v5⟩,f1⟩:=C.row.at (i:=5) A7;obtain⟨⟨_,v6⟩,l4⟩:=C.row.at (i:=6) A7;obtain⟨⟨_,v7⟩,f7⟩:=C.row.at (i:=7) A7;have vz:=C.lt;refine aj 13 (λK J=>?_);go_simp
   refine af J (λh=>Pg rfl h) ?_;clear J K;refine aG ?_;have b6:=Kz (NU wE z 0 [.slice S s.asks.length T,.a s.on,.slice Y s.cases.length Z,.a s.els,.a s.fall,.bool s.fin,.bool s.bad,.string s.give] (C.row.there (o:=0) (m:=8) (NQ _)));have e2:=Kz (bJ (g:=z) nz [.slice S s.asks.length T,.a s.on,.slice Y s.cases.length Z,.a s.els,.a s.fall,.bool s.fin,.bool s.bad,.string s.give] 0 KE);have i3:=Kz (aB.sets [.slice S s.asks.length T,.a s.on,.slice Y s.cases.length Z,.a s.els,.a s.fall,.bool s.fin,.bool s.bad,.string s.give] 0 C);obtain⟨w5,e3⟩:=ai (wE.setCells z 0 [.slice S s.asks.length T,.a s.on,.slice Y s.cases.length Z,.a s.els,.a s.fall,.bool s.fin,.bool s.bad,.string s.give]);rw[<-e3] at b6 e2 i3;go_upto_region 5 with fail
   have i4:((((((((wE.setCell ⟨z,0,none⟩ (.slice S s.asks.length T)).setCell ⟨z,1,none⟩ (.a s.on)).setCell ⟨z,2,none⟩ (.slice Y s.cases.length Z)).setCell ⟨z,3,none⟩ (.a s.els)).setCell ⟨z,4,none⟩ (.a s.fall)).setCell ⟨z,5,none⟩ (.bool s.fin)).setCell ⟨z,6,none⟩ (.bool s.bad)).setCell ⟨z,7,none⟩ (.string s.give))=w5:=by rw[e3];rfl
   rw[i4];clear i4 e3 v0 v1 v2 v3 v4 v5 v6 v7 k9 l0 l1 l2 l3 f1 l4 f7 vz C KE nz KD;have a7:=Kz (h9.o.kept e2.o);have q5:J4 w5 z 5 (.bool s.fin):=b6.o 5 _ rfl;have gz:=i3.o.lt;cases P:s.fin
   .rw[P] at q5;have q0:J4 w5 z 0 (.slice S s.asks.length T):=b6.o 0 _ rfl;have i5:=Kz (Bq a7.o a5.o S T s.asks i0 (λl5 hx=>(i1 l5 hx).2.1) (vQ E x.o M.o.lo M.o.hi a6.o) k5.o A7 c2 j1 hN (λs' b N=>?_) (λs'=>by have:=q.o.Nh s';omega) (by rw[E2.out.1];omega));rotate_left
    .obtain⟨v,hv,e⟩:=q.o.ww s' b N;by_cases g:v.tb=t.tb
     .exact⟨c,(Ce F.o).1,by rw[a0.out,<-g,e]⟩
     .exact⟨v,(Ce F.o).2 v hv g,e⟩
    rw[a0.out] at i5;go_wp2_with fail
    refine i5.o.mono ?_;rintro e w6 ⟨rfl,l6,ts',d',c3,f',a1,b2,i6,i7⟩;have⟨e4,l7,l8⟩:=fu i6 i7 b2;clear i6 i7 b2;go_wp2
    go_end0
    have n:=M.o.nx;rw[<-a6.o,P] at n;simp only[Bool.false_eq_true,if_false] at n;obtain⟨z1,z2⟩:=q.o.asked E HB.o.tbs (ts0:=l6) (t1:={c with qs:=c.qs++s.asks.map Value.string}) F.o A.o (by show c.r=_;rw[n]) M.o.ov M.o.vi a0.out ⟨E2.out.1,E2.out.2.1,by show c.qs++_=_;rw[n,E2.out.2.2]⟩ (by have h:=l8.o;rw[List.set_set] at h;exact h) e4.o.asc e4.o.tbs x.o (by show _= (stepOf _ c.r.at').asks;rw[n,a6.o]) (by have h:=l7.o;rw[a0.out] at h;rw[n];exact h);exact⟨rfl,ts',d',c3,f',a1,e4.o,z1,z2⟩
   .rw[P] at q5;have i8:Hid (∀w',K_ w5 w'->J4 w' z 6 (.bool s.bad)/\J4 w' z 7 (.string s.give)/\J4 w' t.tb 6 (c.tv)):=λw' K=>⟨(K.cell gz).trans (b6.o 6 _ rfl),(K.cell gz).trans (b6.o 7 _ rfl),by rw[<-a0.out];exact ((a7.o.kept K).at a5.o).rng 6 _ rfl⟩
    obtain⟨ta,tc,c1⟩:=ay (a7.o.at a5.o).txt;have l9:=Kz c1;have i9:Hid (c.r.texts.length<=tc/\∀e5,K_ w5 e5->Strs e5 ta c.r.texts):=by
     refine⟨?_,λe5 K=>?_⟩
     .have j0:=(a7.o.at a5.o).txt;rw[c1] at j0;rcases j0.2 with⟨e,n1⟩|⟨g,cp,n2,e,_,_,n3,_⟩
      .omega
      .simp only[OG] at e;omega
     .obtain⟨n4,c9,e6,m0⟩:=bv ((a7.o.kept K).at a5.o).txt;rw[c1] at e6;simp only[OG] at e6;rw[e6.1];exact m0
    clear c1;go_upto_region 6 with fail
    refine bn 12 i8.o λU KD I=>?_
    refine ax 0 I ?_;refine ax 4 I ?_;refine ae 8 I ?_;refine ae 9 I ?_;refine ae 10 I ?_;refine aF 11 (λK J=>?_);go_simp
    go_at_call 118
    rw[l9.o];refine (j2 U s.give ta tc c.r.texts (h9.o.kw.trans (e2.o.trans KD)) k7 D5 (i9.o.2 _ KD) i9.o.1).mono ?_;rintro e w6 ⟨rfl,k6⟩;have K6:=KD.trans k6;refine af J (λ_=>i8.o _ K6) ?_;clear J K I;refine aF 12 (λK J=>?_);go_simp
    go_at_call 116
    have a8:=M.o.nm;have e7:=nM (a7.o.kept K6) a5.o s.bad (jl s.give c.r.texts) (by rw[a8];exact c7) (by rw[a8];omega) (λb N=>by
     rw[a8] at N;obtain⟨b0,u,W,b1,h3,h4,h5⟩:=c6.o b N;exact⟨b0,u,by rw[Oj (Ne.symm W),Oj (Ne.symm W)];exact b1,h3,h4,h5⟩) (by rw[a8];exact q.o.wn _)
    rw[a0.out,a8] at e7;refine e7.mono ?_;rintro e wF ⟨rfl,a2⟩;rw[List.set_set] at a2;have d1:=Kz a2;clear a2 e7 a8;refine af J (λh=>Pg rfl h) ?_;clear J K;refine aG ?_;go_wp2_with fail
    refine bodyPost_ret (results_none rfl _ _ _) rfl ?_;have n:=M.o.nx;rw[<-a6.o,P] at n;simp only[if_true] at n;have m1:s.asks=[]:=mO E x.o M.o.lo M.o.hi a6.o P;obtain⟨z1,z2⟩:=q.o.ended E HB.o.tbs (t':=c.ended s.bad (jl s.give c.r.texts)) F.o A.o (by rw[n];rfl) rfl (by rw[n];exact m1) a0.out E2.out.1 (.inl ⟨E2.out.2.1.trans ((q.o.bl t (Oe F.o)).open A.o.1),λ_ _=>.inr ⟨⟨t.cost,t.steps⟩,by show Q_ Kj c.r.name=_;rw[M.o.nm];exact x.o,by show (stepOf ⟨t.cost,t.steps⟩ c.r.at').fin=true;rw[<-a6.o];exact P⟩⟩) E2.out.2.2;exact⟨rfl,_,d,dc,_,_,d1.o.more A7,z1,z2⟩
end
theorem nY{l:List Qq}(h:bF l 0):dI l:=by
 have a:¬iL l:=by
  rcases h with⟨_,e⟩|⟨_,_,e⟩|⟨_,_,_,e⟩|⟨_,_,_,_,e⟩|⟨_,_,b,_,_⟩
  .omega
  .omega
  .omega
  .omega
  .exact b
 refine DY λi c=>?_
 cases d:Op.bytesLess (nameAt l i) (nameAt l (i+1))
 .exact Pg ⟨i,c,d⟩ a
 .rfl
structure Bi (Kj:List Qq) (L:List Ps) (ts:List Zx):Prop where
 env:∀n,Qj (Qk ts) n=if dM L n=true/\(Q_ Kj n).isSome=true then some (Qz.fresh n) else none
 fr:∀t∈ts,t.r=Qz.fresh t.r.name/\t.op=0/\t.bq= (⟨#[]⟩,[])
theorem Bi.nil(Kj:List Qq):Bi Kj [] []:=⟨λn=>by rw[Pf (by simp[dM])];rfl,λt h=>by cases h⟩
variable {Kj : List Qq}
theorem Bi.want{L:List Ps}{ts ts':List Zx}{n:Ps}(h:Bi Kj L ts)(B:dz (Qk ts))(l:dz (Qk ts'))(d:Jz Kj ts n ts'):Bi Kj (L++ [n]) ts':=by
 have e:∀m,dM (L++ [n]) m=true↔dM L m=true\/m=n:=λm=>by simp[bT]
 rcases d with⟨rfl,d⟩|⟨p,new,rfl,k,q,C,s⟩
 .refine⟨λm=>?_,h.fr⟩;rw[h.env m];by_cases a:dM L m=true/\(Q_ Kj m).isSome=true
  .rw[Pe a,Pe ⟨(e m).2 (.inl a.1),a.2⟩]
  .rw[Pf a,Pf];rintro⟨c,f⟩;rcases (e m).1 c with g|g
   .exact a ⟨g,f⟩
   .subst g;rcases d with d|⟨t,v,i⟩
    .rw[d] at f;cases f
    .have:=h.env m;rw[Pf a] at this;exact iY.1 this t v i
 .have j:∀u,u∈ts.take p++new :: ts.drop p↔u=new\/u∈ts:=λu=>by
   rw[N_,OL];constructor
   .rintro (h|h|h)
    .exact .inr (List.mem_of_mem_take h)
    .exact .inl h
    .exact .inr (List.mem_of_mem_drop h)
   .rintro (h|h)
    .exact .inr (.inl h)
    .rw[<-OW p ts] at h;rcases N_.1 h with h|h
     .exact .inl h
     .exact .inr (.inr h)
  refine⟨λm=>?_,λu b=>?_⟩
  .by_cases i:m=n
   .subst i;rw[Pe ⟨(e m).2 (.inr rfl),s⟩];have:=bE l (r:=new.r) (OP ((j new).2 (.inl rfl)));rw[k] at this;exact this
   .have w:Qj (Qk (ts.take p++new :: ts.drop p)) m=Qj (Qk ts) m:=by
     cases c:Qj (Qk ts) m with
     | some x=>
      obtain⟨y,z⟩:=aN c;obtain⟨u,b,rfl⟩:=Oq.1 y;have:=bE l (r:=u.r) (OP ((j u).2 (.inr b)));rw[z] at this;exact this
     | none=>
      rw[iY] at c⊢;intro u b;rcases (j u).1 b with rfl|b
      .rw[k];exact λA=>i A.symm
      .exact c u b
    rw[w,h.env m];by_cases a:dM L m=true/\(Q_ Kj m).isSome=true
    .rw[Pe a,Pe ⟨(e m).2 (.inl a.1),a.2⟩]
    .rw[Pf a,Pf];rintro⟨c,f⟩;rcases (e m).1 c with g|g
     .exact a ⟨g,f⟩
     .exact i g
  .rcases (j u).1 b with rfl|b
   .exact⟨by rw[k];rfl,q⟩
   .exact h.fr u b
theorem Bi.done{Kk:List Ps}{ts:List Zx}(h:Bi Kj Kk ts)(i:aX (Q_ Kj))(f:dz (Qk ts)):BS Kj ts (λ_=>[])/\Qj (Qk ts)=Qj (eT Kj Kk):=by
 refine⟨⟨⟨f,λr j=>?_⟩,λt b=>?_,λs t b=>?_,λ_=>List.nodup_nil,λs p l=>(by cases l),λt b=>Bg.still (congrArg Prod.fst (h.fr t b).2.2) (by rw[(h.fr t b).1];rfl),λt b=>xM.still (congrArg Prod.snd (h.fr t b).2.2) (h.fr t b).1⟩, ?_⟩
 .have d:=bE f j;rw[h.env] at d
  split at d
  .rename_i e
   have m:Qz.fresh r.name=r:=OQ d;rw[<-m];exact gD i e.2
  .cases d
 .obtain⟨d,e⟩:=h.fr t b;rw[d,nN,e.1]
  rfl
 .obtain⟨d,_⟩:=h.fr t b;rw[d,nN];simp
 .funext n
  rw[h.env n,fQ]
theorem BM.begun{b:Pv}{a:Pt}{cap:Nat}{rd:Pt}{rn rc:Nat}(d:aB ((b.alloc (.map #[] 0)).alloc (.cells #[.slice a Kj.length cap,.func (.func 99) #[] #[],.slice rd rn rc,J3,.func (.func 55) #[] #[],.map (some b.heap.size)] 123)) (b.heap.size+1) 123 6)(c:((b.alloc (.map #[] 0)).alloc (.cells #[.slice a Kj.length cap,.func (.func 99) #[] #[],.slice rd rn rc,J3,.func (.func 55) #[] #[],.map (some b.heap.size)] 123)).rangeAt (b.heap.size+1) 0 [.slice a Kj.length cap,.func (.func 99) #[] #[],.slice rd rn rc,J3,.func (.func 55) #[] #[],.map (some b.heap.size)]):
  BM (bV.no b) Kj b ((b.alloc (.map #[] 0)).alloc (.cells #[.slice a Kj.length cap,.func (.func 99) #[] #[],.slice rd rn rc,J3,.func (.func 55) #[] #[],.map (some b.heap.size)] 123)) (b.heap.size+1) a cap rd rn rc b.heap.size 0 [] none 0 (λ_=>.slice none 0 0) (λ_=>[]):=
 ⟨(ah _ _).alloc _,d,c 0 _ rfl,c 1 _ rfl,c 2 _ rfl,c 3 _ rfl,c 4 _ rfl,c 5 _ rfl,Nat.le_succ _,OO _ _ _ _,λt h=>(by cases h),λt h=>(by cases h),List.Pairwise.nil,List.nodup_nil,List.Pairwise.nil,λt h=>(by cases h),⟨0,.map [],NQ _,(World.ownsMap_made b prog 9 asIs).alloc _,λs _=>rfl⟩,NQ _,λs=>OO _ _ _ _,λs e _ x h=>(by cases h),λs x h=>(by cases h),λt h=>(by cases h),Fen.no (by simp only[OC];omega),λ_ h=>(by cases h)⟩
def Nb(Kj:List Qq)(Kk:List Ps)(a:Pt)(cap:Nat)(rd:Pt)(rc:Nat)(w w':Pv)(e:Ending):Prop:=
 K_ w w'/\((¬(bF Kj 0/\eX Kk)/\e= .returned (.tuple #[.pointer none,.bool false]))\/
  (bF Kj 0/\eX Kk/\∃wz bb mb ts d dc,e= .returned (.tuple #[.c bb,.bool true])/\K_ w wz/\BM (bV.no wz) Kj wz w' bb a cap rd Kk.length rc mb 0 ts d dc (λ_=>.slice none 0 0) (λ_=>[])/\BS Kj ts (λ_=>[])/\Qj (Qk ts)=Qj (eT Kj Kk)))
theorem yJ(w:Pv)(a:Pt)(cap:Nat)(Kj:List Qq)(rd:Pt)(rc:Nat)(Kk:List Ps)(T:Kj.length<=1048576)(U:∀s∈Kj,s.Fits)(V:Kk.length<=maxLen)(W:Kk.length<=rc)(X:∀s∈Kk,s.size<=maxLen)(K:bN w a Kj)(L:Strs w rd Kk):
  Calls prog 20 #[.agg #[.slice a Kj.length cap],.slice rd Kk.length rc] w λe w'=>Nb Kj Kk a cap rd rc w w' e:=by
 have Y:Kj.length<=maxLen:=D5;go_enter func20,ntmps20
 go_wp2_with fail
 refine (nJ FT _ a cap Kj Y U (K.kept F5)).mono ?_;rintro e M ⟨⟨c,rfl,f⟩,l⟩;have m:K_ w M:=K_.trans (ah _ _) l;have Z:=l.size;simp only[OC] at Z;have N:=Cn (w:=w) l;have h:=Kz f;clear f l;have a0:w.heap.size<M.heap.size:=A7;by_cases x:c=0
 .subst x;go_wp2_with fail
  refine (pu _ rd rc Kk V W X (L.kept m)).mono ?_;rintro e w2 ⟨y,n⟩;have q2:=(n.cell (o:=0) a0).trans N;have z:=m.trans n;have z2:=n.size;clear N m n;have b2:w.heap.size<w2.heap.size:=A7;rcases y.cases with⟨rfl,O⟩|⟨rfl,P⟩
  .have p:=Kz O;clear O y;go_wp2_with fail
   refine (sD _ a Kj.length cap).mono ?_;rintro e b ⟨rfl,A⟩;have i:=z.trans A;have z3:=A.size;clear q2 A z;have a1:(Instr.makeMap 117 none).run prog b= .ok (.map (some b.heap.size)) (b.alloc (.map #[] 0)):=rfl;go_wp2
   clear a1;have Q:K_ w ((b.alloc (.map #[] 0)).alloc (.cells #[.slice a Kj.length cap,.func (.func 99) #[] #[],.slice rd Kk.length rc,J3,.func (.func 55) #[] #[],.map (some b.heap.size)] 123)):=(i.alloc _).alloc _;have q:=Xz (b.alloc (.map #[] 0)) #[.slice a Kj.length cap,.func (.func 99) #[] #[],.slice rd Kk.length rc,J3,.func (.func 55) #[] #[],.map (some b.heap.size)] 123;simp only[OC] at q;have B:=aB.made (b.alloc (.map #[] 0)) #[.slice a Kj.length cap,.func (.func 99) #[] #[],.slice rd Kk.length rc,J3,.func (.func 55) #[] #[],.map (some b.heap.size)] 123;simp only[OC] at B;have R:BM (bV.no b) Kj b ((b.alloc (.map #[] 0)).alloc (.cells #[.slice a Kj.length cap,.func (.func 99) #[] #[],.slice rd Kk.length rc,J3,.func (.func 55) #[] #[],.map (some b.heap.size)] 123)) (b.heap.size+1) a cap rd Kk.length rc b.heap.size 0 [] none 0 (λ_=>.slice none 0 0) (λ_=>[]):=BM.begun B q;have⟨a2,b3⟩:=aH R Q;clear q B R Q;have a3:=nV h.o;go_loopw [29] (λC wr=>∃(k:Nat) (r:List Zx) (D:Pt) (E:Nat),k<=Kk.length/\C= .a k/\BM (bV.no b) Kj b wr (b.heap.size+1) a cap rd Kk.length rc b.heap.size 0 r D E (λ_=>.slice none 0 0) (λ_=>[])/\Bi Kj (Kk.take k) r) (λC _=>Kk.length-(intOf C).toNat)
   case atStart=>exact⟨0,[],none,0,NS _,rfl,a2.o,Bi.nil Kj⟩
   case round=>
    obtain⟨k,r,D,E,hk,rfl,d,j⟩:=hrel;have b4:=d.len a3;have b5:Kk.length<=10:=p.o.2.1;by_cases F:k<Kk.length
    .obtain⟨a4,o,rfl,hb,f⟩:=L k F;obtain⟨G,H⟩:=ai (Kk.getD k ByteArray.empty);rw[<-H] at f;have b6:J4 wr a4 (o+k) (.string G):=((i.trans d.kw).cell hb).trans f;have a5:Hid (Kk.take (k+1)=Kk.take k++ [G]):=by show _=_;rw[NY F,H];simp[List.getD,F]
     have HW:=Kz (vH d G A7 T (nY h.o) (K.kept i));have⟨a6,t⟩:=aH d.asc j;have i0:(k:Int)<(Kk.length:Int):=A7;clear H d j f;go_wp2_with fail
     refine (bC HW).mono ?_;rintro e w5 ⟨rfl,a7,d5,a8,I,S⟩;have a9:=Kz I;have b0:=Kz (t.o.want a6.o I.asc S);clear I S;go_wp2
     go_roundw
     case rel=>exact⟨k+1,a7,d5,a8,A7,C8,a9.o,by rw[a5.out];exact b0.o⟩
     case measure=>simp[intOf];omega
    .have b1:k=Kk.length:=A7;subst b1;rw[Ox] at j;have⟨v,t⟩:=aH d j;clear d j;go_wp2
     go_ret2
     exact⟨i.trans v.o.kw,.inr ⟨h.o,p.o,b,_,_,r,D,E,rfl,i,v.o,(t.o.done (cO h.o) v.o.asc).1,(t.o.done (cO h.o) v.o.asc).2⟩⟩
  .have p:=Kz P;clear P y;go_wp2
   go_ret2
   exact⟨z,.inl ⟨λJ=>p.o J.2,rfl⟩⟩
 .have q:(c == 0)=false:=by simpa using x
  go_wp2
  go_ret2
  exact⟨m,.inl ⟨λJ=>x (h.o.unique J.1),rfl⟩⟩
theorem jD(w:Pv)(a b c d f h i:Pw)(s:Ps)(j:a= .string s):
  Calls prog 74 #[.agg #[a,b,c,d,f,h,i]] w λe w'=>e= .returned (.string s)/\K_ w w':=by
 subst j;go_enter func74,ntmps74
 go_wp2
 go_ret
 exact⟨rfl,ah _ _⟩
def JV(l:List Qz)(k:Nat):Prop:=∀j,j+1<k->aR (l.getD j Qz.zero).name (l.getD (j+1) Qz.zero).name
variable {l : List Qz}
theorem Dn(h:JV l l.length):dz l:=by
 have c:∀i j,i<j->j<l.length->aR (l.getD i Qz.zero).name (l.getD j Qz.zero).name:=by
  intro i j b
  induction j with
  | zero=>intro _;omega
  | succ j ih=>
   intro a;by_cases d:i=j
   .subst d;exact h i a
   .exact fe (ih A7 A7) (h j a)
 unfold dz;rw[Ob];intro i j e a b;have:=c i j b a;simpa[List.getD,e,a] using this
theorem DF(h:dz l):JV l l.length:=λj b=>by
 have:=Ob.1 h j (j+1) A7 b A7;simpa[List.getD,b,(A7:j<l.length)] using this
theorem DW(w:Pv)(a:Pt)(cap:Nat)(l:List Qz)(hl:l.length<=1048576)(M:fw w a l):
  Calls prog 75 #[.agg #[.slice a l.length cap,.func (.func 74) #[] #[]]] w λe w'=>Says e (dz l)/\K_ w w':=by
 have B:K_ w (w.alloc (.cells #[.slice a l.length cap,.func (.func 74) #[] #[]] 141)):=ah _ _;go_enter func75,ntmps75
 go_wp2
 go_loopw [3] (λC wr=>∃n:Nat,1<=n/\n<=l.length+1/\C= .a n/\K_ (w.alloc (.cells #[.slice a l.length cap,.func (.func 74) #[] #[]] 141)) wr/\JV l n) (λC _=>l.length+2-(intOf C).toNat)
 case atStart=>exact⟨1,A7,A7,rfl,K_.refl _,λp D=>Pg D A7⟩
 case round=>
  obtain⟨n,a1,a2,rfl,k,N⟩:=hrel;have O:=Kz N;clear N;have W:=k.size;simp only[OC] at W;have P:w.heap.size<wr.heap.size:=A7;obtain⟨X,Y⟩:=xx k;by_cases Z:n<l.length
  .have Q:K_ w wr:=B.trans k;obtain⟨b,o,t,v,rfl,h,i,_,_⟩:=M.kept Q (n-1) A7;obtain⟨b',o',z,A,R,a3,j,_,_⟩:=M.kept Q n Z;simp only[OE,Po,and_true] at R;obtain⟨rfl,rfl⟩:=R;obtain⟨x,E⟩:=ai ((l.getD (n-1) Qz.zero));obtain⟨y,F⟩:=ai ((l.getD n Qz.zero));rw[<-E] at i;rw[<-F] at j;have S:Hid (l.getD (n-1) Qz.zero=x):=E.symm;have T:Hid (l.getD (n-1+1) Qz.zero=y):=by rw[F,show n-1+1=n by omega];exact rfl
   clear E F;have c0:J4 wr b (o+ (n-1)*7) (.string x.name):=i 0 _ rfl;have c1:J4 wr b (o+ (n-1)*7+1) (.bool x.over):=i 1 _ rfl;have c2:J4 wr b (o+ (n-1)*7+2) (.bool x.fail):=i 2 _ rfl;have c3:J4 wr b (o+ (n-1)*7+3) (.string x.text):=i 3 _ rfl;have c4:J4 wr b (o+ (n-1)*7+4) (.a x.at'):=i 4 _ rfl;have c5:J4 wr b (o+ (n-1)*7+5) (.a x.Zj):=i 5 _ rfl;have c6:J4 wr b (o+ (n-1)*7+6) (.slice t x.texts.length v):=i 6 _ rfl;have d0:J4 wr b (o+n*7) (.string y.name):=j 0 _ rfl;have d1:J4 wr b (o+n*7+1) (.bool y.over):=j 1 _ rfl;have d2:J4 wr b (o+n*7+2) (.bool y.fail):=j 2 _ rfl;have d3:J4 wr b (o+n*7+3) (.string y.text):=j 3 _ rfl;have d4:J4 wr b (o+n*7+4) (.a y.at'):=j 4 _ rfl;have d5:J4 wr b (o+n*7+5) (.a y.Zj):=j 5 _ rfl;have d6:J4 wr b (o+n*7+6) (.slice z y.texts.length A):=j 6 _ rfl;clear i j;have i0:(0:Int)<=(n:Int)-1:=A7;have i1:(n:Int)-1<(l.length:Int):=A7;have i2:(n:Int)<(l.length:Int):=A7;have i5:(1:Int)<=(n:Int):=A7;have i6:(n:Int)<=(l.length:Int):=A7;have i7:n<=l.length:=A7;have i3:((n:Int)-1).toNat=n-1:=A7;have i4:IntKind.i64.wrap ((n:Int)-1)= (n:Int)-1:=gZ A7 A7;have U:∀w',K_ wr w'->(λw'=>J4 w' b (o+ (n-1)*7) (.string x.name)/\J4 w' b (o+ (n-1)*7+1) (.bool x.over)/\J4 w' b (o+ (n-1)*7+2) (.bool x.fail)/\J4 w' b (o+ (n-1)*7+3) (.string x.text)/\J4 w' b (o+ (n-1)*7+4) (.a x.at')/\J4 w' b (o+ (n-1)*7+5) (.a x.Zj)/\J4 w' b (o+ (n-1)*7+6) (.slice t x.texts.length v)/\J4 w' b (o+n*7) (.string y.name)/\J4 w' b (o+n*7+1) (.bool y.over)/\J4 w' b (o+n*7+2) (.bool y.fail)/\J4 w' b (o+n*7+3) (.string y.text)/\J4 w' b (o+n*7+4) (.a y.at')/\J4 w' b (o+n*7+5) (.a y.Zj)/\J4 w' b (o+n*7+6) (.slice z y.texts.length A)/\J4 w' w.heap.size 0 (.slice (some ⟨b,o,none⟩) l.length cap)/\J4 w' w.heap.size 1 (.func (.func 74) #[] #[])) w':=λw' c=>⟨(K_.cell c h).trans c0,(K_.cell c h).trans c1,(K_.cell c h).trans c2,(K_.cell c h).trans c3,(K_.cell c h).trans c4,(K_.cell c h).trans c5,(K_.cell c h).trans c6,(K_.cell c h).trans d0,(K_.cell c h).trans d1,(K_.cell c h).trans d2,(K_.cell c h).trans d3,(K_.cell c h).trans d4,(K_.cell c h).trans d5,(K_.cell c h).trans d6,(K_.cell c P).trans X,(K_.cell c P).trans Y⟩
   have m:=Kz U;clear U;cases V:Op.bytesLess x.name.toList y.name.toList
   .have a0:True:=trivial;go_upto_region 4 with fail
    refine Qx.region C9 (λw'=>J4 w' b (o+ (n-1)*7) (.string x.name)/\J4 w' b (o+ (n-1)*7+1) (.bool x.over)/\J4 w' b (o+ (n-1)*7+2) (.bool x.fail)/\J4 w' b (o+ (n-1)*7+3) (.string x.text)/\J4 w' b (o+ (n-1)*7+4) (.a x.at')/\J4 w' b (o+ (n-1)*7+5) (.a x.Zj)/\J4 w' b (o+ (n-1)*7+6) (.slice t x.texts.length v)/\J4 w' b (o+n*7) (.string y.name)/\J4 w' b (o+n*7+1) (.bool y.over)/\J4 w' b (o+n*7+2) (.bool y.fail)/\J4 w' b (o+n*7+3) (.string y.text)/\J4 w' b (o+n*7+4) (.a y.at')/\J4 w' b (o+n*7+5) (.a y.Zj)/\J4 w' b (o+n*7+6) (.slice z y.texts.length A)/\J4 w' w.heap.size 0 (.slice (some ⟨b,o,none⟩) l.length cap)/\J4 w' w.heap.size 1 (.func (.func 74) #[] #[])) 17 (m.o _ (bD wr)) (λd=>?_);have q:K_ wr wr.drew:=bD wr;generalize G:wr.drew=wd at d q⊢;clear G;refine ax 0 d ?_;refine ax 4 d ?_;refine ax 9 d ?_;refine ae 13 d ?_;refine ae 14 d ?_;refine ae 15 d ?_;refine aF 8 (λK f=>?_);go_simp
    go_at_call 74
    refine (jD _ _ _ _ _ _ _ _ _ rfl).mono ?_;rintro e w1 ⟨rfl,H⟩;have r:=q.trans H;refine af f (λ_=>m.o _ r) ?_;clear f K d;refine aF 16 (λK f=>?_);go_simp
    go_at_call 74
    refine (jD _ _ _ _ _ _ _ _ _ rfl).mono ?_;rintro e w2 ⟨rfl,I⟩;have c:=r.trans I;refine af f (λ_=>m.o _ c) ?_;clear f K;refine aj 17 (λK f=>?_);go_simp
    refine af f (λs=>absurd rfl s) ?_;clear f K;refine aG ?_;try dsimp only
    have J:=k.trans c;go_wp2
    go_ret
    exact⟨Says.no λs=>(by have L:=DF s (n-1) A7;unfold aR at L;rw[S.o,T.o,V] at L;cases L),B.trans J⟩
   .have a0:True:=trivial;go_upto_region 4 with fail
    refine Qx.region C9 (λw'=>J4 w' b (o+ (n-1)*7) (.string x.name)/\J4 w' b (o+ (n-1)*7+1) (.bool x.over)/\J4 w' b (o+ (n-1)*7+2) (.bool x.fail)/\J4 w' b (o+ (n-1)*7+3) (.string x.text)/\J4 w' b (o+ (n-1)*7+4) (.a x.at')/\J4 w' b (o+ (n-1)*7+5) (.a x.Zj)/\J4 w' b (o+ (n-1)*7+6) (.slice t x.texts.length v)/\J4 w' b (o+n*7) (.string y.name)/\J4 w' b (o+n*7+1) (.bool y.over)/\J4 w' b (o+n*7+2) (.bool y.fail)/\J4 w' b (o+n*7+3) (.string y.text)/\J4 w' b (o+n*7+4) (.a y.at')/\J4 w' b (o+n*7+5) (.a y.Zj)/\J4 w' b (o+n*7+6) (.slice z y.texts.length A)/\J4 w' w.heap.size 0 (.slice (some ⟨b,o,none⟩) l.length cap)/\J4 w' w.heap.size 1 (.func (.func 74) #[] #[])) 17 (m.o _ (bD wr)) (λd=>?_);have q:K_ wr wr.drew:=bD wr;generalize G:wr.drew=wd at d q⊢;clear G;refine ax 0 d ?_;refine ax 4 d ?_;refine ax 9 d ?_;refine ae 13 d ?_;refine ae 14 d ?_;refine ae 15 d ?_;refine aF 8 (λK f=>?_);go_simp
    go_at_call 74
    refine (jD _ _ _ _ _ _ _ _ _ rfl).mono ?_;rintro e w1 ⟨rfl,H⟩;have r:=q.trans H;refine af f (λ_=>m.o _ r) ?_;clear f K d;refine aF 16 (λK f=>?_);go_simp
    go_at_call 74
    refine (jD _ _ _ _ _ _ _ _ _ rfl).mono ?_;rintro e w2 ⟨rfl,I⟩;have c:=r.trans I;refine af f (λ_=>m.o _ c) ?_;clear f K;refine aj 17 (λK f=>?_);go_simp
    refine af f (λs=>absurd rfl s) ?_;clear f K;refine aG ?_;try dsimp only
    have J:=k.trans c;go_wp2
    go_roundw
    case rel=>
     refine⟨n+1,A7,A7,C8,J,λp D=>?_⟩;by_cases e:p=n-1
     .subst e;unfold aR;rw[S.o,T.o,V]
     .exact O.o p A7
    case measure=>simp[intOf];omega
  .go_wp2
   go_ret
   exact⟨Says.yes (Dn λp D=>O.o p A7),B.trans k⟩
def Fe(r:List Qz)(l:List Qq):Prop:=r.length=l.length/\∀i,i<l.length->nameAt l i= (r.getD i Qz.zero).name.toList
theorem tX(w:Pv)(g:Nat)(x:Qz)(b:Pt)(c:Nat)(a:Ps)(h:g<w.heap.size)(i:w.cell? ⟨g,1,none⟩=some (.func (.func 74) #[] #[])):
  Calls prog 174 #[.agg #[.string x.name,.bool x.over,.bool x.fail,.string x.text,.a x.at',.a x.Zj,.slice b x.texts.length c],.string a,.c g] w λe w'=>e= .returned (.a (kV x.name.toList a.toList))/\K_ w w':=by
 have d:K_ w (w.alloc (.cells #[.string x.name,.bool x.over,.bool x.fail,.string x.text,.a x.at',.a x.Zj,.slice b x.texts.length c] 40)):=ah _ _;have j:¬g=w.heap.size:=A7;go_enter func174,ntmps174
 go_wp2_with fail
 refine (jD _ _ _ _ _ _ _ _ _ rfl).mono ?_;rintro e k ⟨rfl,f⟩;go_wp2_with fail
 refine (qA _ x.name a).mono ?_;rintro e l ⟨rfl,rfl⟩;go_wp2
 go_ret
 exact⟨rfl,d.trans f⟩
theorem CB(w:Pv)(g:Nat)(a:Pt)(cap:Nat)(l:List Qq)(d:Ps)(hl:l.length<=1048576)(S:dI l)(A:g<w.heap.size)(T:w.cell? ⟨g,1,none⟩=some (.func (.func 74) #[] #[]))(r:List Qz)(B:Fe r l)(U:fw w a r):
  Calls prog 173 #[.slice a l.length cap,.string d,.func (.func 174) #[] #[.c g]] w
   λe w'=>Found l d.toList e/\K_ w w':=by
 have V:=Kz S;clear S;go_enter func173,ntmps173
 go_wp2
 go_loopw [9,10] (λx F wr=>∃i j:Nat,x= .a i/\F= .a j/\i<=j/\j<=l.length/\(∀t,t<i->Op.bytesLess (nameAt l t) d.toList=true)/\(∀t,j<=t->t<l.length->Op.bytesLess (nameAt l t) d.toList=false)/\K_ w wr) (λx F _=>(intOf F).toNat-(intOf x).toNat)
 case atStart=>exact⟨0,l.length,rfl,rfl,NS _,NQ _,λt W=>aT W,λt h1 X=>A7,K_.refl _⟩
 case round=>
  obtain⟨i,j,rfl,rfl,a6,Y,n,p,f⟩:=hrel;have q:=Kz (And.intro n p);clear n p;by_cases a7:(i:Int)<j
  .obtain⟨h,Z⟩:∃h:Nat,h= (i+j) / 2:=⟨_,rfl⟩;have G:h<l.length:=A7;have a2:i<=h:=A7;have a8:h<j:=A7;obtain⟨b,o,s,v,rfl,hb,c,_,_⟩:=U.kept f h (by rw[B.1];exact G);obtain⟨x,k⟩:=ai (r.getD h Qz.zero);rw[<-k] at c;have H:Hid (nameAt l h=x.name.toList):=by rw[k];exact B.2 h G
   have I:J4 wr b (o+h*7) (.string x.name):=c 0 _ rfl;have J:J4 wr b (o+h*7+1) (.bool x.over):=c 1 _ rfl;have K:J4 wr b (o+h*7+2) (.bool x.fail):=c 2 _ rfl;have L:J4 wr b (o+h*7+3) (.string x.text):=c 3 _ rfl;have M:J4 wr b (o+h*7+4) (.a x.at'):=c 4 _ rfl;have N:J4 wr b (o+h*7+5) (.a x.Zj):=c 5 _ rfl;have O:J4 wr b (o+h*7+6) (.slice s x.texts.length v):=c 6 _ rfl;clear k c;have a9:((i:Int)+ (j:Int)) / 2= (h:Int):=A7;have HH:=Kz Z;clear Z;have P:g<wr.heap.size:=NR A f.size;have Q:wr.cell? ⟨g,1,none⟩=some (.func (.func 74) #[] #[]):=by rw[f.cell A];exact T
   go_wp2_with fail
   refine (tX _ g x s v d P Q).mono ?_;rintro e w1 ⟨rfl,y⟩;have z:nameAt l h=x.name.toList:=H.o;have C:Hid (kV x.name.toList d.toList<0↔Op.bytesLess (nameAt l h) d.toList=true):=by rw[z];exact xK
   clear I J K L M N O z;generalize kV x.name.toList d.toList=a0 at *;have D:=f.trans y;clear f y;by_cases a3:a0<0
   .go_wp2
    go_roundw
    case rel=>
     obtain⟨n,p⟩:=q.o;refine⟨h+1,j,C8,rfl,A7,Y,λt W=>?_,p,D⟩;have m:=C.o.1 a3;by_cases e:t=h
     .subst e;exact m
     .exact fC _ _ _ (V.o t h A7 G) m
    case measure=>simp[intOf];omega
   .go_wp2
    go_roundw
    case rel=>
     obtain⟨n,p⟩:=q.o;refine⟨i,h,rfl,C8,a2,A7,n,λt h1 X=>?_,D⟩;have m:Op.bytesLess (nameAt l h) d.toList=false:=by
      cases R:Op.bytesLess (nameAt l h) d.toList
      .rfl
      .have:=C.o.2 R;omega
     by_cases e:t=h
     .subst e;exact m
     .cases R:Op.bytesLess (nameAt l t) d.toList
      .rfl
      .rw[fC _ _ _ (V.o h t A7 X) R] at m;cases m
    case measure=>simp[intOf];omega
  .have a4:i=j:=A7;subst a4;have a1:Hid (Place l d.toList i):=⟨Y,q.o.1,q.o.2⟩;clear q;by_cases E:i<l.length
   .obtain⟨b,o,s,v,rfl,hb,c,_,_⟩:=U.kept f i (by rw[B.1];exact E);obtain⟨x,k⟩:=ai (r.getD i Qz.zero);rw[<-k] at c;have H:Hid (nameAt l i=x.name.toList):=by rw[k];exact B.2 i E
    have I:J4 wr b (o+i*7) (.string x.name):=c 0 _ rfl;have J:J4 wr b (o+i*7+1) (.bool x.over):=c 1 _ rfl;have K:J4 wr b (o+i*7+2) (.bool x.fail):=c 2 _ rfl;have L:J4 wr b (o+i*7+3) (.string x.text):=c 3 _ rfl;have M:J4 wr b (o+i*7+4) (.a x.at'):=c 4 _ rfl;have N:J4 wr b (o+i*7+5) (.a x.Zj):=c 5 _ rfl;have O:J4 wr b (o+i*7+6) (.slice s x.texts.length v):=c 6 _ rfl;clear k c;have P:g<wr.heap.size:=NR A f.size;have Q:wr.cell? ⟨g,1,none⟩=some (.func (.func 74) #[] #[]):=by rw[f.cell A];exact T
    have a5:(i:Int)<l.length:=A7;go_wp2_with fail
    refine (tX _ g x s v d P Q).mono ?_;rintro e w1 ⟨rfl,y⟩;have z:nameAt l i=x.name.toList:=H.o;have C:Hid (kV x.name.toList d.toList=0↔nameAt l i=d.toList):=by rw[z];exact uM
    clear I J K L M N O z;generalize kV x.name.toList d.toList=a0 at *;have D:=f.trans y;clear f y;go_wp2
    go_ret2
    refine⟨Found.mk i _ rfl a1.o ?_,D⟩;rw[<-C.o];simp[E]
   .have a5:¬(i:Int)<l.length:=A7;go_wp2
    go_ret2
    exact⟨Found.mk i false rfl a1.o (by simp;intro h;exact Pg h E),f⟩
theorem Ig(w:Pv)(a:Pt)(cap:Nat)(l:List Qq)(b:Ps)(h:l.length<=1048576)(i:dI l)(r:List Qz)(j:Fe r l)(k:fw w a r):
  Calls prog 126 #[.agg #[.slice a l.length cap,.func (.func 74) #[] #[]],.string b] w
   λe w'=>Found l b.toList e/\K_ w w':=by
 have c:K_ w (w.alloc (.cells #[.slice a l.length cap,.func (.func 74) #[] #[]] 141)):=ah _ _;go_enter func126,ntmps126
 go_wp2_with fail
 refine (CB _ w.heap.size a cap l b h i A9 A9 r j (k.kept c)).mono ?_;rintro e v ⟨m,n⟩;obtain⟨p,q,rfl,d,f⟩:=m;have⟨s,t⟩:=aH d f;clear d f;go_wp2
 go_ret2
 exact⟨Found.mk p q rfl s.o t.o,c.trans n⟩
def jT(l:List Qz):List Qq:=l.map λx=>⟨x.name,0,[]⟩
theorem h_(l:List Qz):Fe l (jT l):=by
 refine⟨by simp[jT],λi b=>?_⟩;have c:i<l.length:=by simpa[jT] using b
 simp[nameAt,jT,List.getD,c]
theorem tL(h:dz l):dI (jT l):=by
 intro i j f c;have d:j<l.length:=by simpa[jT] using c
 rw[(h_ l).2 i A7,(h_ l).2 j c];have:=Ob.1 h i j A7 d f;simpa[List.getD,d,(A7:i<l.length),aR] using this
def Mo(l:List Qz)(n:Ps)(e:Ending):Prop:=
 ∃(p:Nat) (f:Bool),e= .returned (.tuple #[.a p,.bool f])/\p<=l.length/\(if f then p<l.length/\Qj l n=some (l.getD p Qz.zero) else Qj l n=none)
theorem CO{p:Nat}(h:p<l.length):l.getD p Qz.zero∈l:=by
 rw[List.getD_eq_getElem?_getD,NV h];exact Oa h
theorem GN(j:dz l){n:Ps}{e:Ending}(h:Found (jT l) n.toList e):Mo l n e:=by
 obtain⟨p,m,rfl,⟨q,v,s⟩,c⟩:=h;have w:(jT l).length=l.length:=(h_ l).1.symm;rw[w] at q s c;have t:∀i,i<l.length->nameAt (jT l) i= (l.getD i Qz.zero).name.toList:=λi D=>(h_ l).2 i A7
 refine⟨p,m,rfl,q, ?_⟩;cases m with
 | true=>
  obtain⟨a,b⟩:=c.1 rfl;rw[t p a] at b;refine⟨a, ?_⟩;rw[<-toList_inj.1 b];exact bE j (CO a)
 | false=>
  cases x:Qj l n with
  | none=>rfl
  | some r=>
   exfalso
   obtain⟨y,z⟩:=aN x;obtain⟨k,d,A⟩:=Oc y;have B:(l.getD k Qz.zero)=r:=by simp[List.getD,d,A]
   have f:nameAt (jT l) k=n.toList:=by rw[t k d,B,z]
   have C:p<=k:=by
    rcases Nat.lt_or_ge k p with h|h
    .have:=v k h;rw[f,dV] at this;cases this
    .exact h
   rcases Nat.lt_or_eq_of_le C with h|h
   .have a:=s p (NQ _) A7;have b:=tL j p k h A7;rw[f,a] at b;cases b
   .subst h;have:=c.2 ⟨d,f⟩;cases this
theorem GL(w:Pv)(a:Pt)(cap:Nat)(l:List Qz)(n:Ps)(i:l.length<=1048576)(b:dz l)(d:fw w a l):
  Calls prog 126 #[.agg #[.slice a l.length cap,.func (.func 74) #[] #[]],.string n] w
   λe w'=>Mo l n e/\K_ w w':=by
 have f:(jT l).length=l.length:=(h_ l).1.symm;have h:=Ig w a cap (jT l) n A7 (tL b) l (h_ l) d;rw[f] at h;exact h.mono λe w' c=>⟨GN b c.1,c.2⟩
theorem Cv{P Q:Prop}[Decidable P](h:P↔Q):Says (.returned (.bool (decide P))) Q:=by
 by_cases a:P
 .rw[decide_eq_true a];exact Says.yes (h.1 a)
 .rw[decide_eq_false a];exact Says.no λb=>a (h.2 b)
theorem Fw(w:Pv)(tb:Nat)(r x:Qz)(b:Pt)(c:Nat)(f:tb<w.heap.size)(h:w.cell? ⟨tb,5,none⟩=some (.a r.Zj)):
  Calls prog 127 #[.c tb,.agg #[.string x.name,.bool x.over,.bool x.fail,.string x.text,.a x.at',.a x.Zj,.slice b x.texts.length c]] w
   λe w'=>Says e (dO r x)/\K_ w w':=by
 have a:K_ w (w.alloc (.cells #[.string x.name,.bool x.over,.bool x.fail,.string x.text,.a x.at',.a x.Zj,.slice b x.texts.length c] 40)):=ah _ _;have i:¬tb=w.heap.size:=A7;unfold dO;cases d:x.over
 .rw[d] at a;go_enter func127,ntmps127
  go_wp2
  go_region
  all_goals
   go_wp2
   go_ret
   exact⟨Cv A9,a.drew⟩
 .rw[d] at a;go_enter func127,ntmps127
  go_wp2
  go_region
  all_goals
   go_wp2
   go_ret
   exact⟨Says.yes (Or.inl trivial),a.drew⟩
section
variable {B : Nat} {Kf Kc : Nat -> Prop} {W0 : Pv} {Kj : List Qq} {wz W W' : Pv} {bb : Nat} {a : Pt} {cap : Nat} {rd : Pt} {rn rc : Nat} {mb mx : Nat} {ts0 ts : List Zx} {d0 d : Pt} {dc : Nat} {f : Ps -> Pw} {ws : Ps -> List Nat}
theorem InB.fE(h:InB B Kf Kc (Ko ts0) W0 Kj wz W bb a cap rd rn rc mb mx ts d dc f ws){i:Nat}(hi:i<ts0.length):∃(j:Nat) (t:Zx),ts[j]? =some t/\t.tb=oN ts0 i/\t.r.name= (ET ts0).getD i ByteArray.empty:=by
 obtain⟨t,b,c,e⟩:=h.bm.oth.has (ts0[i].tb,ts0[i].r.name) (Oq.2 ⟨ts0[i],Oa hi,rfl⟩);obtain⟨j,k⟩:=List.getElem?_of_mem b;exact⟨j,t,k,by rw[c];simp[oN,List.getD,hi],by rw[e];simp[ET,List.getD,hi]⟩
theorem InB.row(h:InB B Kf Kc (Ko ts0) W0 Kj wz W bb a cap rd rn rc mb mx ts d dc f ws){base j:Nat}(b:W0.ownsRow base 70 1 (.slice d0 ts0.length j) ts0.length (ts0.map Zx.ptr))(k:∀g,d0=some ⟨g,0,none⟩->Kf g){i:Nat}(hi:i<ts0.length):∃g,d0=some ⟨g,0,none⟩/\W.cell? ⟨g,i,none⟩=some (.c (oN ts0 i)):=by
 rcases b.2 with⟨e,_⟩|⟨g,n,p,e,_⟩
 .exfalso
  simp only[OG] at e;omega
 .simp only[OG] at e;obtain⟨rfl,_,rfl⟩:=e;refine⟨g,rfl, ?_⟩;have c:=b.cells (g:=g) rfl i (ts0[i]).ptr (by simp[hi]);have l:W.cell? ⟨g,i,none⟩=W0.cell? ⟨g,i,none⟩:=Od (w:=W0) (h.same g (k g rfl));rw[l];have m:((⟨g,0,none⟩:Addr).add i)= ⟨g,i,none⟩:=by simp[Addr.add];omega
  rw[m] at c;rw[c];simp[Zx.ptr,oN,List.getD,hi]
theorem InB.sees(h:InB B Kf Kc (Ko ts0) W0 Kj wz W bb a cap rd rn rc mb mx ts d dc f ws)(s:BS Kj ts ws){base v:Nat}(w:W0.ownsRow base 70 1 (.slice d0 ts0.length v) ts0.length (ts0.map Zx.ptr))(x:∀g,d0=some ⟨g,0,none⟩->Kf g){i:Nat}(hi:i<ts0.length):
  (DZ d0 (oN ts0) i W/\bi (Q_ Kj) (Qj (Qk ts)) ((ET ts0).getD i ByteArray.empty))\/(FV d0 (oN ts0) i W/\¬bi (Q_ Kj) (Qj (Qk ts)) ((ET ts0).getD i ByteArray.empty)):=by
 obtain⟨g,e,n⟩:=h.row w x hi;obtain⟨G,t,y,z,A⟩:=h.fE hi;have k:t∈ts:=Oe y;have p:=h.bm.fE t k;have b:J4 W t.tb 1 (.bool t.r.over):=p.rng 1 _ rfl;have c:J4 W t.tb 9 (.a (t.op:Int)):=p.rng 9 _ rfl;have l:Qj (Qk ts) t.r.name=some t.r:=bE h.bm.asc (OP k);rw[z] at b c;rw[A] at l;have q:=s.can k;by_cases j:aZ (Q_ Kj) (Qj (Qk ts)) t.r
 .obtain⟨C,D⟩:=q.1 j;rw[C] at b;rw[D] at c;exact .inl ⟨⟨g,e,n,b,c⟩,⟨t.r,l,j⟩⟩
 .refine .inr ⟨⟨g,e,n, ?_⟩,λ⟨H,r,E⟩=>?_⟩
  .cases m:t.r.over with
   | true=>left;rw[b,m]
   | false=>
    right
    refine⟨by rw[b,m],t.op,λF=>j (q.2 ⟨m,F⟩),c⟩
  .rw[l] at r;cases r;exact j E
def ApI(B:Nat)(Kf Kc:Nat->Prop)(W0:Pv)(Kj:List Qq)(wz:Pv)(bb:Nat)(a:Pt)(cap:Nat)(rd:Pt)(rn rc:Nat)(mb:Nat)(ts0:List Zx)(Gl σ0:Env)(c:Nat)(i:Nat)(W:Pv):Prop:=
 ∃(mx:Nat) (ts:List Zx) (d:Pt) (dc:Nat) (f:Ps->Pw) (ws:Ps->List Nat) (b:Bool),
  InB B Kf Kc (Ko ts0) W0 Kj wz W bb a cap rd rn rc mb mx ts d dc f ws/\BS Kj ts ws/\oK Kj Gl σ0 (Qj (Qk ts0)) (ET ts0) (Qj (Qk ts)) i b/\mx+6*uI Kj ts<=9000/\W.cell? ⟨c,0,none⟩=some (.bool b)/\W.frozen? ⟨c,0,none⟩=false
theorem ApI.calm{x y:Env}{c i:Nat}(w:Kc c):Calm B (ApI B Kf Kc W0 Kj wz bb a cap rd rn rc mb ts0 x y c i):=by
 constructor
 .rintro W o D ⟨e,f,h,j,k,l,b,d,n,p,q,r,s⟩;have t:c<W.heap.size:=d.bm.oth.lt c (.inr w);exact⟨e,f,h,j,k,l,b,d.kept ((K_.refl W).alloc o),n,p,q,(((K_.refl W).alloc o).cell t).trans r,(((K_.refl W).alloc o).rules.2 c 0 t).trans s⟩
 .rintro W E o v z A C ⟨e,f,h,j,k,l,b,d,n,p,q,r,s⟩;have t:=d.lt c (.inr w);exact⟨e,f,h,j,k,l,b,d.calm v z A C,n,p,q,(jI v A7).trans r,(su v A7).trans s⟩
end
open Go.RowKit Go.Shelf
attribute [local go_sem] Oper.semAt_some
section
variable {Kj : List Qq} {wz w w' : Pv} {bb : Nat} {a : Pt} {cap : Nat} {rd : Pt} {rn rc : Nat} {mb mx : Nat} {ts : List Zx} {d : Pt} {dc : Nat} {f : Ps -> Pw} {ws : Ps -> List Nat}
def NB(Kx:Nat->Prop)(Kj:List Qq)(wz w:Pv)(bb:Nat)(a:Pt)(cap:Nat)(rd:Pt)(rn rc:Nat)(mb:Nat)(Gl σ0:Env)(ts0:List Zx)(e:Ending)(w':Pv):Prop:=
 ∃(mx:Nat) (ts:List Zx) (d:Pt) (dc:Nat) (f:Ps->Pw) (ws:Ps->List Nat) (b:Bool),e= .returned (.bool b)/\BM (bV.no wz) Kj wz w' bb a cap rd rn rc mb mx ts d dc f ws/\BS Kj ts ws/\mx+6*uI Kj ts<=9000/\(∃k,bB (Behind (W:=Q_ Kj) dO Gl) (doX (Q_ Kj)) σ0 (Qj (Qk ts)) k)/\(b=false->AtEnd (Behind (W:=Q_ Kj) dO Gl) (Qj (Qk ts)))/\(b=true->uI Kj ts<uI Kj ts0)/\∀k,Kx k->w'.heap[k]? =w.heap[k]?/\xy w' bb mb ts f k
theorem BX(hB:BM (bV.no wz) Kj wz w bb a cap rd rn rc mb mx ts d dc f ws)(hS:BS Kj ts ws)(f0:aX (Q_ Kj))(f1:∀y∈Kj,y.Fits)(c5:Kj.length<=60)(f2:dI Kj)(hN:bN wz a Kj)(f3:dA wz)
  (q:Pt) (x:Nat) (c:List Qz) (f4:c.length<=1048576) (hA:dz c) (hR:fw wz q c) (σ0:Env) (f5:∃k,bB (Behind (W:=Q_ Kj) dO (Qj c)) (doX (Q_ Kj)) σ0 (Qj (Qk ts)) k) (f6:mx+6*uI Kj ts<=9000) (Kx:Nat->Prop) (b0:∀k,Kx k->xy w bb mb ts f k):
  Calls prog 76 #[.c bb,.agg #[.slice q c.length x,.func (.func 74) #[] #[]]] w λe w'=>NB Kx Kj wz w bb a cap rd rn rc mb (Qj c) σ0 ts e w':=by
 have⟨F,HS⟩:=aH hB hS;clear hB hS;refine (callsIn_wide (n:=9)).1 ?_;refine callsIn_of_wp_marks func76 rfl trivial ?_ rfl;simp only[ntmps76,List.size_toArray,OH,List.length_nil,Nat.reduceAdd,Nat.reduceSub,Array.replicate_succ,Array.replicate_zero,List.push_toArray,List.append_toArray,List.nil_append,List.cons_append]
 gi_wp2
 obtain⟨h,M⟩:∃h,((w.alloc (.cells #[.c bb] 55)).alloc (.cells #[.slice q c.length x,.func (.func 74) #[] #[]] 141)).alloc (.cells #[.bool false] 4)=h:=⟨_,rfl⟩;rw[M];have K0:K_ w h:=by rw[<-M];exact ((ah _ _).alloc _).alloc _
 have z0:h.heap.size=w.heap.size+1+1+1:=by rw[<-M];simp
 have q0:=(EY (w:=w) (v:= .c bb) (t:=55) (w1:=h) (by rw[<-M];exact (ah _ _).alloc _)).1;have c6:=Iy (w:=w.alloc (.cells #[.c bb] 55)) (v0:= .slice q c.length x) (v1:= .func (.func 74) #[] #[]) (t:=141) (w1:=h) (by rw[<-M];exact ah _ _);have c7:=EY (w:=(w.alloc (.cells #[.c bb] 55)).alloc (.cells #[.slice q c.length x,.func (.func 74) #[] #[]] 141)) (v:= .bool false) (t:=4) (w1:=h) (by rw[<-M];exact K_.refl _);simp only[OC] at c6 c7;obtain⟨q1,q2⟩:=c6;obtain⟨q3,q4,q5⟩:=c7;have Y:=F.o.kept K0;have i2:=F.o.len c5;have i3:=F.o.kw.size;obtain⟨z,Z⟩:∃z:Nat->Prop,z=λk=>k=w.heap.size\/k=w.heap.size+1\/d=some ⟨k,0,none⟩\/Kx k:=⟨_,rfl⟩
 obtain⟨Kc,b1⟩:∃Kc:Nat->Prop,Kc=λk=>k=w.heap.size+1+1:=⟨_,rfl⟩
 have f7:z w.heap.size:=by rw[Z];exact .inl rfl
 have c8:z (w.heap.size+1):=by rw[Z];exact .inr (.inl rfl)
 have c9:∀g,d=some ⟨g,0,none⟩->z g:=λg e=>by rw[Z];exact .inr (.inr (.inl e))
 have d0:∀k,Kx k->z k:=λk e=>by rw[Z];exact .inr (.inr (.inr e))
 have a5:Kc (w.heap.size+1+1):=by rw[b1]
 have f8:¬z (w.heap.size+1+1):=by
  rw[Z];rintro (e|e|e|e)
  .omega
  .omega
  .have:=(F.o.apart e).1;omega
  .have:=(b0 _ e).1;omega
 have d1:Hid (InB h.heap.size z Kc (Ko ts) h Kj wz h bb a cap rd rn rc mb mx ts d dc f ws):=InB.start Y (λk A=>by
   have far:w.heap.size<=k->k<h.heap.size->k<h.heap.size/\k≠bb/\k≠mb/\(∀t∈ts,k≠t.tb/\k∉t.own)/\∀s,(f s).ownBlock≠some k:=λl m=>⟨m,F.o.far l⟩
   rw[Z,b1] at A;rcases A with (e|e|e|e) | e
   .exact far A7 A7
   .exact far A7 A7
   .exact Y.apart e
   .have l:=b0 k e;exact⟨by have:=l.1;omega,l.2⟩
   .exact far A7 A7)
  (λk A=>by rw[b1] at A;rw[A];exact⟨A7,_,q5,A8⟩)
  (λp N=>by obtain⟨t,O,rfl⟩:=Oq.1 N;exact⟨t,O,rfl,rfl⟩)
 have b2:=Y.items;have i4:=F.o.row.lt;have d2:=Y.c3;have f9:=Kz Y;clear Y;refine xg (vE bb d ts.length dc (oN ts) A7) rfl (enters_of func33 C9 rfl) (Gg A7) d2 (λ_=>rfl)
  (ApI h.heap.size z Kc h Kj wz bb a cap rd rn rc mb ts (Qj c) σ0 (w.heap.size+1+1))
  (λ_ _=>False) (λa0=>ApI.calm a5) (λ_=>sj _) ⟨mx,ts,d,dc,f,ws,false,d1.o,HS.o,oK.start f5,f6,q3,q4⟩
  (λa0=>{tmps:= #[.c bb,.agg #[.slice q c.length x,.func (.func 74) #[] #[]],.c w.heap.size,.c (w.heap.size+1),.bool false,.c (w.heap.size+1+1),.c (oN ts a0),undef,undef,.c bb,.func (.func 33) #[.c bb] #[],.c (oN ts a0),undef,undef,undef,undef,undef,undef,undef,undef,undef,undef,undef,undef,undef,undef,undef,undef,undef,undef,undef,undef,undef,undef,undef,undef],defers:=[]})
  ?assign (λa0=>Ab (λg e=>by have:=(F.o.apart e).1;omega)) ?step ?done ?stop
 case assign=>
  intro a6 a0 W i5 hK
  gi_wp2
  exact hK
 case stop=>
  intro g0 i6 W _ P _;exact P.elim
 case done=>
  rintro g0 W hD ⟨B,n,Q,R,S,T,G,i,r,H,I,a1,g6⟩ d3;have J:=Kz (i.calm (.deferred none) hD d3 rfl);have⟨a2,U⟩:=aH r H;clear i r H
  gi_wp2
  refine⟨A9,.inl ⟨_,_,rfl,run_takeDeferred d3, ?_⟩⟩;refine⟨_,results_tmp rfl _ _ _,B,n,Q,R,S,T,G,rfl,J.o.bm.no,a2.o,I,U.o.led,λe=>?_,λe=>?_,λk A=>⟨(J.o.same k (d0 k A)).trans (K0.block k (b0 k A).1),J.o.bm.oth.apart (.inl (d0 k A))⟩⟩
  .subst e;have V:=U.o;have g1:ts.length= (ET ts).length:=by simp[ET]
   rw[g1] at V;refine V.NM (λi7 b3 K=>?_);obtain⟨g2,g3⟩:=aN K;obtain⟨t,O,rfl⟩:=Oq.1 g2;exact Oq.2 ⟨t,O,g3⟩
  .exact U.o.yes e
 case step=>
  rintro a0 W hi ⟨B,n,Q,R,S,T,G,i,r,H,I,a1,g6⟩;rcases i.sees r b2 c9 hi with⟨hv,K⟩|⟨hn,K⟩;rotate_left
  .exact .inr ⟨hn,B,n,Q,R,S,T,G,i,r,H.skip (λP=>K P.1),I,a1,g6⟩
  refine .inl ⟨hv, ?_⟩;clear K hv g6 a1 I H r i G T S R Q n B;clear W;rintro a6 W hv ⟨B,n,Q,R,S,T,G,i,r,H,I,a1,g6⟩ hz;rcases i.sees r b2 c9 hi with⟨_,K⟩|⟨hn,_⟩;rotate_left
  .exact (Jq hv hn).elim
  obtain⟨j,t,hj,d4,e2⟩:=i.fE hi;have O:t∈n:=Oe hj;have hT:=i.bm.fE t O;have g4:=hT.row.lt;have b4:Qj (Qk n) t.r.name=some t.r:=bE i.bm.asc (OP O);have d5:aZ (Q_ Kj) (Qj (Qk n)) t.r:=by
   obtain⟨b3,l,m⟩:=K;rw[<-e2,b4] at l;cases l;exact m
  have t0:J4 W t.tb 0 (.string t.r.name):=hT.rng 0 _ rfl;have t5:J4 W t.tb 5 (.a t.r.Zj):=hT.rng 5 _ rfl;rw[<-d4];have p0:J4 W w.heap.size 0 (.c bb):=(Od (w:=h) (i.same _ f7)).trans q0;have p1:J4 W (w.heap.size+1) 0 (.slice q c.length x):=(Od (w:=h) (i.same _ c8)).trans q1;have p2:J4 W (w.heap.size+1) 1 (.func (.func 74) #[] #[]):=(Od (w:=h) (i.same _ c8)).trans q2;have⟨J,a2,U,HJ,d6⟩:=jH i r H hj d5;have⟨a7,d7⟩:=aH b4 e2;have d8:=hR.kept i.bm.kw;clear i r H hj d5 b4 e2 hT O K hv q0 q1 q2 q3 q4 q5 b2 d1 F HS f9 d2 M d4;have hd:1<=7:=A7;have i8:prog.follows .mixedOrders=true:=C9
  gi_wp2
  rename_i Q1 K1 hK1
  have d9:∀(w2:Pv) (p:Nat) (C:Bool),K_ W w2->p<=c.length->(if C then p<c.length/\Qj c t.r.name=some (c.getD p Qz.zero) else Qj c t.r.name=none)->K1 {tmps:= #[.c bb,.agg #[.slice q c.length x,.func (.func 74) #[] #[]],.c w.heap.size,.c (w.heap.size+1),.bool false,.c (w.heap.size+1+1),.c t.tb,.a (p:Int),.bool C,.c bb,.func (.func 33) #[.c bb] #[],.c t.tb,.tuple #[.a (p:Int),.bool C],.agg #[.slice q c.length x,.func (.func 74) #[] #[]],.c t.tb,.c t.tb,.c t.tb,.c t.tb,.string t.r.name,.tuple #[.a (p:Int),.bool C],.a (p:Int),.bool C,undef,undef,undef,undef,undef,undef,undef,undef,undef,undef,undef,undef,undef,undef],defers:=[]} w2:=by
   intro w2 p C D N X;apply hK1;have y1:w.heap.size<W.heap.size:=A7;have y2:w.heap.size+1<W.heap.size:=A7;have y3:w.heap.size+1+1<W.heap.size:=A7;have r0:=(D.cell (o:=0) y1).trans p0;have r1:=(D.cell (o:=0) y2).trans p1;have r2:=(D.cell (o:=1) y2).trans p2;have r5:=(D.cell (o:=5) g4).trans t5;have s2:=D.size;have g5:t.tb<w2.heap.size:=A7;have⟨a3,HP,b5,b6,Hz⟩:=jH D N a1 g6 z0;clear p0 p1 p2 t0 t5 D N a1 g6 hK1 z0;cases C with
   | false=>
    have b7:=Kz X;clear X
    gi_wp2
    refine⟨trivial, ?_⟩
    gi_wp2
    refine⟨mQ a3.o _,B,n,Q,R,S,T,G,J.o.kept a3.o,a2.o,U.o.skip (λP=>?_),I,(a3.o.cell y3).trans b5.o,(a3.o.rules.2 _ _ y3).trans b6.o⟩;obtain⟨_,b3,g,_,m,_⟩:=P;rw[<-d7.o] at m;have V:=b7.o;simp only[Bool.false_eq_true,if_false] at V;rw[V] at m;cases m
   | true=>
    simp only[if_true] at X;obtain⟨g7,e0⟩:=X;obtain⟨b,o,xa,xc,g8,i9,L,j0,_⟩:=(d8.kept a3.o) p g7;subst g8;generalize c.getD p Qz.zero=e1 at *;have e3:=Kz e0;have e4:=L 0 _ rfl;have c1:=L 1 _ rfl;have c2:=L 2 _ rfl;have c3:=L 3 _ rfl;have c4:=L 4 _ rfl;have g9:=L 5 _ rfl;have h0:=L 6 _ rfl;simp only[OJ] at e4;clear L e0
    gi_wp2_with fail
    refine⟨trivial,(CallsIn.inRound a6 (callsIn_wide.2 (Fw w2 t.tb t.r e1 xa xc g5 r5))).mono ?_⟩;rintro e w3 ⟨b8,k3⟩;have E:=Kz (a3.o.trans k3);have v0:=(k3.cell (o:=0) A7).trans r0;clear e4 c1 c2 c3 c4 g9 h0 r0 r1 r2 r5;rcases b8.cases with⟨rfl,a4⟩|⟨rfl,a4⟩
    .have a8:Hid (Behind (W:=Q_ Kj) dO (Qj c) (Qj (Qk n)) t.r.name):=⟨⟨t.r,a7.o,d6.o⟩,t.r,e1,a7.o,e3.o,a4⟩;clear a4 b8
     gi_wp2_with fail
     refine⟨trivial,(CallsIn.inRound a6 (callsIn_wide.2 (uV (J.o.kept E.o).told a2.o HJ.o d6.o f0 f1 c5 f2 hN A7 f3))).mono ?_⟩;rintro e w4 ⟨rfl,e5,h1,h2,h3,h4,e6,e7,b9⟩;obtain⟨e8,e9,a9⟩:=(J.o.kept E.o).did e6;have hw:=a2.o.good.wf;have h5:=(kK hw a8.o.1 (Kj.map (·.name))).2 (jA (hw _ _ a7.o).web);have h6:B+6+6*uI Kj e5<=9000:=by
      unfold uI at I⊢;rw[b9];omega
     have c0:=U.o.did hw a8.o;rw[<-b9] at c0;have u0:J4 w4 (w.heap.size+1+1) 0 (.bool G):=(Od (w:=w3) (a9 _ a5)).trans ((E.o.cell y3).trans b5.o);have u1:w4.frozen? ⟨w.heap.size+1+1,0,none⟩=false:=(World.frozen?_of_block (w:=w3) (a9 _ a5)).trans ((E.o.rules.2 _ _ y3).trans b6.o);have⟨h7,h8,h9,i0,j1⟩:=jH e8 e7 c0 e9 a9;clear e6 b9 e8 e7 c0 e9 a9 h5 v0 k3
     gi_wp2
     refine⟨((mQ E.o _).trans i0.o).trans ((KeepsOthers.setCell _ _ _).from _),B+6,e5,h1,h2,h3,h4,true,h7.o.store (p:=⟨w.heap.size+1+1,0,none⟩) a5 f8 _,h8.o,h9.o,h6,OX _ _ _ u0, ?_⟩;rw[World.frozen?_setCell];exact u1
    .have a8:=Kz a4;clear a4 b8 k3
     gi_wp2
     refine⟨mQ E.o _,B,n,Q,R,S,T,G,J.o.kept E.o,a2.o,U.o.skip (λP=>?_),I,(E.o.cell y3).trans b5.o,(E.o.rules.2 _ _ y3).trans b6.o⟩;obtain⟨_,b3,g,l,m,V⟩:=P;rw[<-d7.o] at l m;rw[a7.o] at l;rw[e3.o] at m;cases l;cases m;exact a8.o V
  have i1:=Kz d9;clear d9
  gi_region_with_o (refine⟨trivial, ?_⟩;gi_at_call 126;refine (CallsIn.inRound a6 (callsIn_wide.2 (GL _ q x c t.r.name f4 hA (d8.kept (bD W))))).mono ?_;rintro e w2 ⟨⟨p,C,rfl,N,X⟩,D⟩;have HP:=Kz N;have b7:=Kz X;clear N X)
  all_goals exact i1.o _ p C ((K_.refl W).drew.trans D) HP.o b7.o
end
theorem wK(w:Pv)(a r:Pt)(c A:Nat)(l l':List Ps)(L:l.length<=1048576)(_hl':l'.length<=1048576)(B:Strs w a l)(C:Strs w r l'):
  Calls prog 128 #[.slice a l.length c,.slice r l'.length A] w λe w'=>e= .returned (.bool (decide (l=l')))/\K_ w w':=by
 go_enter func128,ntmps128
 by_cases i:l.length=l'.length
 .have D:((l.length:Int) != (l'.length:Int))=false:=by simp[i]
  have E:(l.length:Int)= (l'.length:Int):=A7;go_wp2
  go_loopw [13] (λm wr=>∃k:Nat,k<=l.length/\m= .a k/\Hid (∀j,j<k->l.getD j ByteArray.empty=l'.getD j ByteArray.empty)/\K_ w wr) (λm _=>l.length-(intOf m).toNat)
  case atStart=>exact⟨0,NS _,rfl,Kz λj n=>aT n,K_.refl _⟩
  case round=>
   obtain⟨k,M,rfl,s,d⟩:=hrel;by_cases F:k<l.length
   .obtain⟨b,o,rfl,N,G⟩:=B.kept d k F;obtain⟨O,P,rfl,Q,H⟩:=C.kept d k A7;have R:(k:Int)<(l.length:Int):=A7;have S:(k:Int)<(l'.length:Int):=A7;obtain⟨x,p⟩:=ai (l.getD k ByteArray.empty);obtain⟨y,q⟩:=ai (l'.getD k ByteArray.empty);rw[<-p] at G;rw[<-q] at H;have⟨t,v⟩:=aH p q;clear p q;cases f:(x.toList == y.toList)
    .have I:(x.toList != y.toList)=true:=by rw[bne,f];rfl
     go_upto_region 6 with fail
     go_quiet (fail)
     go_wp2
     go_ret
     have h:¬l=l':=λe=>by
      have z:=pO f;rw[t.o,v.o,e] at z;exact z rfl
     exact⟨by rw[decide_eq_false h];rfl,d.drewN _⟩
    .have I:(x.toList != y.toList)=false:=by rw[bne,f];rfl
     go_upto_region 6 with fail
     go_quiet (fail)
     go_wp2
     go_roundw
     case rel=>
      refine⟨k+1,A7,C8,Kz λj n=>?_,d.drewN _⟩;by_cases e:j=k
      .rw[e,<-t.o,<-v.o];exact gT f
      .exact s.o j A7
     case measure=>simp[intOf];omega
   .go_wp2
    go_ret
    have J:l=l':=zQ i λj n=>s.o j A7
    exact⟨by rw[decide_eq_true J];rfl,d⟩
 .have D:((l.length:Int) != (l'.length:Int))=true:=D6;have E:¬(l.length:Int)= (l'.length:Int):=A7;have h:¬l=l':=λe=>i (by rw[e])
  have K:=Kz h;clear h;go_wp2
  go_ret
  exact⟨by rw[decide_eq_false K.o];rfl,K_.refl _⟩
theorem Bj(w:Pv)(tb:Nat)(r t:Qz)(B b:Pt)(K j:Nat)(L:tb<w.heap.size)(C:w.rangeAt tb 0 (r.cells B K))(hl:r.texts.length<=1048576)(a1:t.texts.length<=1048576)(U:Strs w B r.texts)(V:Strs w b t.texts):
  Calls prog 78 #[.c tb,.agg #[.string t.name,.bool t.over,.bool t.fail,.string t.text,.a t.at',.a t.Zj,.slice b t.texts.length j]] w
   λe w'=>Says e (r=t)/\K_ w w':=by
 obtain⟨N,D,E,O,F,G,P⟩:=r;obtain⟨k,c,d,l,f,i,m⟩:=t;dsimp only at hl a1 U V⊢;have v:K_ w (w.alloc (.cells #[.string k,.bool c,.bool d,.string l,.a f,.a i,.slice b m.length j] 40)):=ah _ _;have a7:¬tb=w.heap.size:=A7;have x:tb<(w.alloc (.cells #[.string k,.bool c,.bool d,.string l,.a f,.a i,.slice b m.length j] 40)).heap.size:=D6;have y:w.heap.size<(w.alloc (.cells #[.string k,.bool c,.bool d,.string l,.a f,.a i,.slice b m.length j] 40)).heap.size:=A9;have c0:J4 (w.alloc (.cells #[.string k,.bool c,.bool d,.string l,.a f,.a i,.slice b m.length j] 40)) tb 0 (.string N):=(v.cell L).trans (by have h:=C 0 _ rfl;simpa using h);have d0:J4 (w.alloc (.cells #[.string k,.bool c,.bool d,.string l,.a f,.a i,.slice b m.length j] 40)) w.heap.size 0 (.string k):=Xz w #[.string k,.bool c,.bool d,.string l,.a f,.a i,.slice b m.length j] 40 0 _ rfl;have c1:J4 (w.alloc (.cells #[.string k,.bool c,.bool d,.string l,.a f,.a i,.slice b m.length j] 40)) tb 1 (.bool D):=(v.cell L).trans (by have h:=C 1 _ rfl;simpa using h);have d1:J4 (w.alloc (.cells #[.string k,.bool c,.bool d,.string l,.a f,.a i,.slice b m.length j] 40)) w.heap.size 1 (.bool c):=Xz w #[.string k,.bool c,.bool d,.string l,.a f,.a i,.slice b m.length j] 40 1 _ rfl;have c2:J4 (w.alloc (.cells #[.string k,.bool c,.bool d,.string l,.a f,.a i,.slice b m.length j] 40)) tb 2 (.bool E):=(v.cell L).trans (by have h:=C 2 _ rfl;simpa using h);have d2:J4 (w.alloc (.cells #[.string k,.bool c,.bool d,.string l,.a f,.a i,.slice b m.length j] 40)) w.heap.size 2 (.bool d):=Xz w #[.string k,.bool c,.bool d,.string l,.a f,.a i,.slice b m.length j] 40 2 _ rfl;have c3:J4 (w.alloc (.cells #[.string k,.bool c,.bool d,.string l,.a f,.a i,.slice b m.length j] 40)) tb 3 (.string O):=(v.cell L).trans (by have h:=C 3 _ rfl;simpa using h);have d3:J4 (w.alloc (.cells #[.string k,.bool c,.bool d,.string l,.a f,.a i,.slice b m.length j] 40)) w.heap.size 3 (.string l):=Xz w #[.string k,.bool c,.bool d,.string l,.a f,.a i,.slice b m.length j] 40 3 _ rfl;have c4:J4 (w.alloc (.cells #[.string k,.bool c,.bool d,.string l,.a f,.a i,.slice b m.length j] 40)) tb 4 (.a F):=(v.cell L).trans (by have h:=C 4 _ rfl;simpa using h);have d4:J4 (w.alloc (.cells #[.string k,.bool c,.bool d,.string l,.a f,.a i,.slice b m.length j] 40)) w.heap.size 4 (.a f):=Xz w #[.string k,.bool c,.bool d,.string l,.a f,.a i,.slice b m.length j] 40 4 _ rfl;have c5:J4 (w.alloc (.cells #[.string k,.bool c,.bool d,.string l,.a f,.a i,.slice b m.length j] 40)) tb 5 (.a G):=(v.cell L).trans (by have h:=C 5 _ rfl;simpa using h);have d5:J4 (w.alloc (.cells #[.string k,.bool c,.bool d,.string l,.a f,.a i,.slice b m.length j] 40)) w.heap.size 5 (.a i):=Xz w #[.string k,.bool c,.bool d,.string l,.a f,.a i,.slice b m.length j] 40 5 _ rfl;have c6:J4 (w.alloc (.cells #[.string k,.bool c,.bool d,.string l,.a f,.a i,.slice b m.length j] 40)) tb 6 (.slice B P.length K):=(v.cell L).trans (by have h:=C 6 _ rfl;simpa using h);have d6:J4 (w.alloc (.cells #[.string k,.bool c,.bool d,.string l,.a f,.a i,.slice b m.length j] 40)) w.heap.size 6 (.slice b m.length j):=Xz w #[.string k,.bool c,.bool d,.string l,.a f,.a i,.slice b m.length j] 40 6 _ rfl;clear C;go_enter func78,ntmps78
 go_upto_region 1 with fail
 generalize hW:(w.alloc (.cells #[.string k,.bool c,.bool d,.string l,.a f,.a i,.slice b m.length j] 40))=a5 at *;clear hW;go_cut [5] from 7 to 34 (λs5 W=>K_ a5 W/\s5= .bool (decide (D=c/\E=d/\O=l)))
 case first=>
  by_cases p:D=c
  .have X:(D == c)=true:=by simp[p]
   by_cases s:E=d
   .have Y:(E == d)=true:=by simp[s]
    have⟨H,M⟩:=aH p s;clear p s;cases h3:(O.toList == l.toList)
    .go_region
     all_goals
      go_wp2
      go_meet
      exact⟨(bD _),by rw[decide_eq_false (λh=>pO h3 (by rw[h.2.2]))]⟩
    .go_region
     all_goals
      go_wp2
      go_meet
      exact⟨(bD _),by rw[decide_eq_true ⟨H.o,M.o,gT h3⟩]⟩
   .have Y:(E == d)=false:=by simp[s]
    have⟨H,M⟩:=aH p s;clear p s;go_region
    all_goals
     go_wp2
     go_meet
     exact⟨(bD _),by rw[decide_eq_false (λh=>M.o h.2.1)]⟩
  .have X:(D == c)=false:=by simp[p]
   have H:=Kz p;clear p;go_region
   all_goals
    go_wp2
    go_meet
    exact⟨(bD _),by rw[decide_eq_false (λh=>H.o h.1)]⟩
 case rest=>
  obtain⟨a,rfl⟩:=hcut;generalize hE:decide (D=c/\E=d/\O=l)=sE;have HE:=Kz hE;clear hE;obtain⟨q,rfl⟩:=ai wc;have t0:J4 q tb 0 (.string N):=(a.cell x).trans c0;have x0:J4 q w.heap.size 0 (.string k):=(a.cell y).trans d0;have t1:J4 q tb 1 (.bool D):=(a.cell x).trans c1;have x1:J4 q w.heap.size 1 (.bool c):=(a.cell y).trans d1;have t2:J4 q tb 2 (.bool E):=(a.cell x).trans c2;have x2:J4 q w.heap.size 2 (.bool d):=(a.cell y).trans d2;have t3:J4 q tb 3 (.string O):=(a.cell x).trans c3;have x3:J4 q w.heap.size 3 (.string l):=(a.cell y).trans d3;have t4:J4 q tb 4 (.a F):=(a.cell x).trans c4;have x4:J4 q w.heap.size 4 (.a f):=(a.cell y).trans d4;have t5:J4 q tb 5 (.a G):=(a.cell x).trans c5;have x5:J4 q w.heap.size 5 (.a i):=(a.cell y).trans d5;have t6:J4 q tb 6 (.slice B P.length K):=(a.cell x).trans c6;have x6:J4 q w.heap.size 6 (.slice b m.length j):=(a.cell y).trans d6;clear c0 c1 c2 c3 c4 c5 c6 d0 d1 d2 d3 d4 d5 d6;have K1:=v.trans a;have z:tb<q.heap.size:=NR x a.size;have A:w.heap.size<q.heap.size:=NR y a.size;clear a x y v;go_upto_region 2 with fail
  go_cut [6] from 35 to 52 (λs6 W=>K_ q W/\s6= .bool (decide (F=f/\G=i)))
  case first=>
   by_cases p:F=f
   .have X:(F == f)=true:=by simp[p]
    have H:=Kz p;clear p;by_cases s:G=i
    .have Y:(G == i)=true:=by simp[s]
     have M:=Kz s;clear s;go_region
     all_goals
      go_wp2
      go_meet
      exact⟨(bD _),by rw[decide_eq_true ⟨H.o,M.o⟩]⟩
    .have Y:(G == i)=false:=by simp[s]
     have M:=Kz s;clear s;go_region
     all_goals
      go_wp2
      go_meet
      exact⟨(bD _),by rw[decide_eq_false (λh=>M.o h.2)]⟩
   .have X:(F == f)=false:=by simp[p]
    have H:=Kz p;clear p;go_region
    all_goals
     go_wp2
     go_meet
     exact⟨(bD _),by rw[decide_eq_false (λh=>H.o h.1)]⟩
  case rest=>
   obtain⟨a,rfl⟩:=hcut;obtain⟨n,rfl⟩:=ai wc;generalize hP:decide (F=f/\G=i)=sP;have HP:=Kz hP;clear hP;have u0:J4 n tb 0 (.string N):=(a.cell z).trans t0;have y0:J4 n w.heap.size 0 (.string k):=(a.cell A).trans x0;have u1:J4 n tb 1 (.bool D):=(a.cell z).trans t1;have y1:J4 n w.heap.size 1 (.bool c):=(a.cell A).trans x1;have u2:J4 n tb 2 (.bool E):=(a.cell z).trans t2;have y2:J4 n w.heap.size 2 (.bool d):=(a.cell A).trans x2;have u3:J4 n tb 3 (.string O):=(a.cell z).trans t3;have y3:J4 n w.heap.size 3 (.string l):=(a.cell A).trans x3;have u4:J4 n tb 4 (.a F):=(a.cell z).trans t4;have y4:J4 n w.heap.size 4 (.a f):=(a.cell A).trans x4;have u5:J4 n tb 5 (.a G):=(a.cell z).trans t5;have y5:J4 n w.heap.size 5 (.a i):=(a.cell A).trans x5;have u6:J4 n tb 6 (.slice B P.length K):=(a.cell z).trans t6;have y6:J4 n w.heap.size 6 (.slice b m.length j):=(a.cell A).trans x6;have Q:=K1.trans a;have a2:tb<n.heap.size:=NR z a.size;have a3:w.heap.size<n.heap.size:=NR A a.size;clear a z A K1 t0 t1 t2 t3 t4 t5 t6 x0 x1 x2 x3 x4 x5 x6;have hT:=U.kept Q;have hX:=V.kept Q;clear U V;go_upto_region 3 with fail
   cases h0:(N.toList == k.toList)
   .go_region
    all_goals
     go_wp2
     go_ret
     exact⟨Says.no (by simp[pO h0]),Q.drew⟩
   .have E0:=Kz (gT h0);cases sE
    .have S:=of_decide_eq_false HE.o;have Z:=Kz S;clear S;go_region
     all_goals
      go_wp2
      go_ret
      exact⟨Says.no (λh=>Pg (by first | exact⟨h.2.1,h.2.2.1,h.2.2.2.1⟩ | (rw[Qz.mk.injEq] at h;exact⟨h.2.1,h.2.2.1,h.2.2.2.1⟩)) Z.o),Q.drew⟩
    .cases sP
     .have S:=of_decide_eq_false HP.o;have Z:=Kz S;clear S;go_region
      all_goals
       go_wp2
       go_ret
       exact⟨Says.no (λh=>Pg (by first | exact⟨h.2.2.2.2.1,h.2.2.2.2.2.1⟩ | (rw[Qz.mk.injEq] at h;exact⟨h.2.2.2.2.1,h.2.2.2.2.2.1⟩)) Z.o),Q.drew⟩
     .have a8:True:=trivial;have a4:∀w',K_ n w'->(λw'=>J4 w' tb 0 (.string N)/\J4 w' w.heap.size 0 (.string k)/\J4 w' tb 6 (.slice B P.length K)/\J4 w' w.heap.size 6 (.slice b m.length j)) w':=λw' a=>⟨(a.cell a2).trans u0,(a.cell a3).trans y0,(a.cell a2).trans u6,(a.cell a3).trans y6⟩
      have a0:=Kz a4;clear a4;refine Qx.region C9 (λw'=>J4 w' tb 0 (.string N)/\J4 w' w.heap.size 0 (.string k)/\J4 w' tb 6 (.slice B P.length K)/\J4 w' w.heap.size 6 (.slice b m.length j)) 24 (a0.o _ (bD n)) (λI=>?_);have R:K_ n n.drew:=bD n;generalize a6:n.drew=wd at I R⊢;clear a6;refine ax 0 I ?_;refine ax 4 I ?_;refine ax 8 I ?_;refine ax 12 I ?_;refine ax 16 I ?_;refine ae 20 I ?_;refine ae 21 I ?_;refine aF 22 (λT J=>?_);go_simp
      go_at_call 128
      refine (wK _ B b K j P m hl a1 (hT.kept R) (hX.kept R)).mono ?_;rintro e w1 ⟨rfl,k1⟩;refine af J (λ_=>a0.o _ (R.trans k1)) ?_;clear J T;refine aj 23 (λT J=>?_);go_simp
      refine af J (λ_=>a0.o _ (R.trans k1)) ?_;clear J T;refine aj 24 (λT J=>?_);go_simp
      refine af J (λh=>Pg rfl h) ?_;clear J T;refine aG ?_;go_wp2
      go_ret
      have p:=of_decide_eq_true HE.o;have s:=of_decide_eq_true HP.o;exact⟨Cv (by simp[E0.out,p.1,p.2.1,p.2.2,s.1,s.2]),(Q.trans R).trans k1⟩
section
variable {P : Program} {ops : Array Oper} {Q : Exit -> Act -> Pv -> Prop} {md : Region.Mode} {l m : Nat}
end
theorem Tryz.FM(w:Pv):(zeroValue 26).run prog w= .ok J3 w:=C9
structure jr (w:Pv) (base mo M:Nat) (g:Ps->Pw) (ol:Ps->List Ps):Prop where
 map:∃N D,N<=M/\w.ownsMap prog 9 asIs mo N D/\(∀s:Ps,s.size<=maxLen->D.atKey (a_ s) (.held J3)= .held (g s))/\∀s:Ps,Maps.has D (a_ s)=true↔ol s≠[]
 row:∀s,w.ownsRow base 9 1 (g s) (ol s).length ((ol s).map Value.string)
 sep:∀s s',s≠s'->∀x,(g s).ownBlock=some x->(g s').ownBlock≠some x
 low:base<=mo
section
variable {w w1 w' : Pv} {base mo M : Nat} {g : Ps -> Pw} {ol : Ps -> List Ps}
theorem jr.look(h:jr w base mo M g ol){s:Ps}(b:s.size<=maxLen):(Instr.lookup 95 (.map (some mo)) (.string s) false).run prog w= .ok (g s) w:=by
 obtain⟨N,D,_,c,d⟩:=h.map;obtain⟨v,j,e,a⟩:=c.lookup Tryz.keyed underlying95 (Tryz.FM w) (zd:= .held J3) (zp:=[]) rfl (WideMaps.keyOf_string_mk underlying9 b);have f:=d.1 s b;unfold asIs at a;simp only[OE,Prod.mk.injEq] at a;have i:(DataW.held v:DataW Pw)= .held (g s):=a.1.trans f;cases i;exact e
theorem jr.but{S:Nat->Prop}(h:jr w base mo M g ol)(k:But S w w')(a:¬S mo)(h2:∀s b,(g s).ownBlock=some b->¬S b):jr w' base mo M g ol:=by
 obtain⟨N,D,c,d,e⟩:=h.map;exact⟨⟨N,D,c,dN d k a,e⟩,λs=>k.owns (h.row s) (h2 s),h.sep,h.low⟩
theorem jr.kept(h:jr w base mo M g ol)(k:K_ w w'):jr w' base mo M g ol:=
 h.but (S:=λ_=>False) (But.au k) id (λ_ _ _=>id)
theorem jr.sJ(h:jr w base mo M g ol){s:Ps}(b:s.size<=maxLen)(f:w.grownBy w1 (g s).ownBlock):(Instr.lookup 95 (.map (some mo)) (.string s) false).run prog w1= .ok (g s) w1:=by
 obtain⟨N,D,_,c,i⟩:=h.map;have j:w1.ownsMap prog 9 asIs mo N D:=dN (S:=λd=>(g s).ownBlock=some d) c (But.aI f (λd e=>e)) (λe=>gV c (Yz (h.row s) e) rfl);obtain⟨v,m,k,a⟩:=j.lookup Tryz.keyed underlying95 (Tryz.FM w1) (zd:= .held J3) (zp:=[]) rfl (WideMaps.keyOf_string_mk underlying9 b);have e:=i.1 s b;unfold asIs at a;simp only[OE,Prod.mk.injEq] at a;have l:(DataW.held v:DataW Pw)= .held (g s):=a.1.trans e;cases l;exact k
theorem jr.put(h:jr w base mo M g ol){s:Ps}(G:s.size<=maxLen){x:Ps}{f:Pw}(v:w1.ownsRow base 9 1 f ((ol s).length+1) ((ol s).map Value.string++ [.string x]))(H:w.grownBy w1 (g s).ownBlock)(z:∀b,f.ownBlock=some b->(g s).ownBlock=some b\/w.heap.size<=b)(R:M<=1000000):
  ∃w2,(Instr.mapUpdate 95 (.map (some mo)) (.string s) f).run prog w1= .ok () w2/\jr w2 base mo (M+1) (λn=>if n=s then f else g n) (λn=>if n=s then ol s++ [x] else ol n)/\But (λb=>(g s).ownBlock=some b\/b=mo) w w2:=by
 obtain⟨N,I,S,l,A⟩:=h.map;have B:But (λb=>(g s).ownBlock=some b) w w1:=But.aI H (λb e=>e);have C:=dN l B (λe=>gV l (Yz (h.row s) e) rfl);obtain⟨w2,J,K,D⟩:=C.update Tryz.keyed underlying95 D5 (WideMaps.keyOf_string_mk underlying9 G) (d:= .held f) (ps:=[]) rfl;have E:But (λb=>(g s).ownBlock=some b\/b=mo) w w2:=(B.mono (λb _ e=>.inl e)).trans (But.aI D (λb e=>.inr (OQ e).symm));have L:But (λb=>b=mo) w1 w2:=But.aI D (λb e=>(OQ e).symm);have O:∀{b:Nat} {t:TypeId},bf w1 b t->¬b=mo:=λP e=>gV C P e
 have F:Maps.IsMap I:=by obtain⟨T,U,_,_,_,rfl⟩:=l;exact⟨_,rfl⟩
 refine⟨w2,J,⟨⟨N+1,_,A7,K,λn Q=>?_,λn=>?_⟩,λn=>?_,λn m r y i a=>?_,h.low⟩,E⟩
 .by_cases e:n=s
  .rw[Pe e,e];exact Maps.atKey_put_same (k:=a_ s) F (by show WideAt.IsKeyLit (.string _);exact trivial) _ _
  .rw[Pf e,<-A.1 n Q];exact Maps.atKey_put_other (gm e) _ _
 .by_cases e:n=s
  .rw[Pe e,e];exact⟨λ_=>A9,λ_=>Maps.has_put_same (k:=a_ s) F (by show WideAt.IsKeyLit (.string _);exact trivial) (.held f)⟩
  .rw[Pf e,<-A.2 n];exact Eq.to_iff (congrArg (· =true) (Maps.has_put_other (gm e) _))
 .by_cases e:n=s
  .simp only[Pe e];have p:(ol s++ [x]).length= (ol s).length+1:=A9;have c:(ol s++ [x]).map Value.string= (ol s).map Value.string++ [.string x]:=A9;rw[p,c];exact L.owns v (λb e=>O (Yz v e))
  .simp only[Pf e];refine E.owns (h.row n) (λb p c=>?_);rcases c with c | c
   .exact h.sep n s e b p c
   .exact gV l (Yz (h.row n) p) c
 .by_cases e:n=s
  .rw[Pe e] at i;rw[Pf (λj=>r (e.trans j.symm))] at a;rcases z y i with q | q
   .exact h.sep s m (λj=>r (e.trans j)) y q a
   .have:=((h.row m).lt y a).2;omega
  .rw[Pf e] at i;by_cases j:m=s
   .rw[Pe j] at a;rcases z y a with q|q
    .exact h.sep n s e y i q
    .have:=((h.row n).lt y i).2;omega
   .rw[Pf j] at a;exact h.sep n m r y i a
theorem jr.made{base:Nat}(b:base<=w.heap.size):jr (w.alloc (.map #[] 0)) base w.heap.size 0 (λ_=>.slice none 0 0) (λ_=>[]):=
 ⟨⟨0,.map [],NQ _,World.ownsMap_made w prog 9 asIs,λs _=>rfl,λs=>by simp[Maps.has]⟩,λs=>OO _ _ _ _,λs d _ x h=>(by cases h),b⟩
end
attribute [local go_sem] Oper.semAt_some
def KO(B:Nat)(d:Pt)(tx:Nat->Ps)(i:Nat)(W:Pv):Prop:=∃b o,d=some ⟨b,o,none⟩/\b<B/\W.cell? ⟨b,o+i,none⟩=some (.string (tx i))
theorem Bu(B a:Nat)(d:Pt)(dc n:Nat)(b:Nat->Ps)(q:n<=1048576):
  JZ prog 108 #[.c a] (λi=>#[.string (b i)]) (KO B d b) (λ_ _=>False) n (λW=>W.cell? ⟨a,0,none⟩=some (.slice d n dc)):=by
 intro y J r W s c f;refine callsIn_of_wp func108 rfl trivial ?_ rfl;simp only[ntmps108,List.size_toArray,OH,List.length_nil,Nat.reduceAdd,Nat.reduceSub,Array.replicate_succ,Array.replicate_zero,List.push_toArray,List.append_toArray,List.nil_append,List.cons_append];have j:=Kz c;clear c
 gi_wp2
 gi_loopw [7] (λx wr=>∃i:Nat,i<=n/\x= .a i/\J i wr) (λx _=>n-(intOf x).toNat)
 case atStart=>exact⟨0,NS _,rfl,f⟩
 case round=>
  obtain⟨i,t,rfl,e⟩:=hrel;by_cases k:i<n
  .rcases j.o i wr k e with⟨⟨v,o,rfl,_,w⟩,fn,z,A,C,D,l⟩|⟨h,_⟩
   .gi_wp2
    refine l.mono ?_;rintro E F (⟨rfl,m⟩|⟨rfl,p⟩)
    .gi_wp2
     go_roundw
     case rel=>exact⟨i+1,A7,C8,m⟩
     case measure=>simp[intOf];omega
    .gi_wp2
     refine bodyPost_ret (results_none rfl _ _ _) rfl ?_;exact⟨⟨_,rfl⟩,.inr p⟩
   .exact h.elim
  .gi_wp2
   go_end0
   have:i=n:=A7;subst this;exact⟨⟨_,rfl⟩,.inl e⟩
def AqI(w1:Pv)(c:Nat)(l:List Ps)(i:Nat)(W:Pv):Prop:=
 K_ w1 W/\c<W.heap.size/\∃v:Pw,W.cell? ⟨c,0,none⟩=some v/\W.frozen? ⟨c,0,none⟩=false/\W.ownsRow (c+1) 9 1 v (l.take i).length ((l.take i).map Value.string)
theorem AqI.calm{w1:Pv}{c:Nat}{l:List Ps}{i B:Nat}(s:w1.heap.size<=c)(t:c<B):Calm B (AqI w1 c l i):=by
 constructor
 .rintro W o w ⟨k,a,v,h,j,d⟩;have f:=(K_.refl W).alloc o;exact⟨k.trans f,by rw[OC];omega,v,(f.cell a).trans h,(f.rules.2 c 0 a).trans j,(But.au (S:=λ_=>False) f).owns d (λ_ _=>id)⟩
 .rintro W y o m x p q ⟨k,a,v,h,j,d⟩;have n:But (λb=>b=y) W (W.putObj y m):=⟨rfl,rfl,rfl,F9,λb _ e=>World.putObj_heap_other e⟩;refine⟨n.kept k (λb e=>by rw[e];omega),by rw[World.putObj_size];exact a,v,(jI m A7).trans h,(su m A7).trans j,n.owns d (λb r e=>?_)⟩;have:=iE (Yz d r) (by rw[e];exact p);rw[q] at this;cases this
theorem uQ{B:Nat}{v:Pw}{c o:Nat}(f:c<B):Calm B (λW=>W.cell? ⟨c,o,none⟩=some v):=by
 constructor
 .intro W b h a;obtain⟨i,d,_⟩:=cells_of_cell a;exact (((K_.refl W).alloc b).cell (aO d)).trans a
 .intro W y b e k l m a;exact (jI e A7).trans a
theorem EE{B:Nat}{d:Pt}{j:Nat->Ps}{i C:Nat}(h:B<=C):Calm C (KO B d j i):=by
 constructor
 .rintro W c k ⟨b,o,rfl,a,f⟩;exact⟨b,o,rfl,a,(uQ (NR a h)).1 W c k f⟩
 .rintro W y c m n p q ⟨b,o,rfl,a,f⟩;exact⟨b,o,rfl,a,(uQ (NR a h)).2 W y c m n p q f⟩
theorem Dj :∃ic,prog.info? 9=some ic/\ic.zero=some (.string ByteArray.empty)/\ic.size=1/\ic.bytes=16:=info_parts Tryz.Gt
theorem zL(w:Pv)(q:Nat)(d:Pt)(dc:Nat)(l:List Ps)(hn:l.length<=1048576)(a8:q<w.heap.size)(hc:w.cell? ⟨q,0,none⟩=some (.slice d l.length dc))(hS:Strs w d l):
  Calls prog 156 #[J3,.func (.func 108) #[] #[.c q]] w λe w'=>∃v,e= .returned v/\w'.ownsRow w.heap.size 9 1 v l.length (l.map Value.string)/\K_ w w':=by
 refine (callsIn_wide (n:=9)).1 ?_;refine callsIn_of_wp_marks func156 rfl trivial ?_ rfl;simp only[ntmps156,List.size_toArray,OH,List.length_nil,Nat.reduceAdd,Nat.reduceSub,Array.replicate_succ,Array.replicate_zero,List.push_toArray,List.append_toArray,List.nil_append,List.cons_append]
 gi_wp2_with fail
 obtain⟨r,A⟩:∃r,w.alloc (.cells #[J3] 26)=r:=⟨_,rfl⟩;rw[A];have Z:K_ w r:=by rw[<-A];exact ah _ _
 have z0:r.heap.size=w.heap.size+1:=by rw[<-A];simp
 obtain⟨a0,q1,_⟩:=EY (w:=w) (v:= J3) (t:=26) (w1:=r) (by rw[A];exact K_.refl _);have F:=(Z.cell a8).trans hc;obtain⟨k,R⟩:∃k:Nat->Ps,∀i,k i=l.getD i ByteArray.empty:=⟨_,λ_=>rfl⟩;have a9:Hid (∀i W,i<l.length->K_ w W->KO w.heap.size d k i W):=λi W B a1=>by
  obtain⟨b,o,e,G,b0⟩:=hS i B;exact⟨b,o,e,G,by rw[R];exact (a1.cell G).trans b0⟩
 have b1:=Kz R;clear R;refine Dr (Bu w.heap.size q d dc l.length k hn) rfl (enters_of func108 C9 rfl) (uQ A7) F (λ_=>rfl)
  (AqI w w.heap.size l) (λ_ _=>False) (λi=>AqI.calm (NQ _) A7) (λ_=>sj _)
  ⟨Z,A7,J3,a0,q1,by rw[List.take_zero];exact OO _ _ _ _⟩
  (λi=>{tmps:= #[J3,.func (.func 108) #[] #[.c q],.c w.heap.size,undef,J3,.string (k i),.func (.func 108) #[] #[.c q],.string (k i),undef,undef,undef,undef,undef],defers:=[]}) ?assign ?calm ?step ?done ?stop
 case assign=>
  intro b2 i W a1 hK
  gi_wp2
  exact hK
 case calm=>exact λi=>EE A7
 case stop=>
  intro D c W _ b3 _;exact b3.elim
 case step=>
  rintro i W B ⟨s,x,v,C,H,h⟩;refine .inl ⟨a9.o i W B s, ?_⟩;clear h H C v x s;clear W;rintro b2 W _ ⟨s,x,v,C,H,h⟩ c6;obtain⟨I,J,rfl⟩:=ay h;obtain⟨f,K⟩:=ai (l.take i);have c7:f.length<=1048576:=by rw[K,Oo];omega
  rw[<-K] at h C;obtain⟨j,T⟩:=ai (k i);rw[<-T];have b4:Hid (l.take (i+1)=f++ [j]):=by
   show l.take (i+1)=f++ [j];rw[NY B,K,T,b1.o];simp[List.getD,B]
  have H3:=Kz h;clear h a0 q1 F A T K;obtain⟨ic,F,b5,b6,b7⟩:=Dj;have b8:w.heap.size+1<=W.heap.size:=A7;obtain⟨V,y⟩:=ai (W.alloc (.cells #[.string j] 9));have L:K_ W V:=by rw[y];exact ah _ _
  have M:=Kz L;have z:=Kz ((But.au (S:=λ_=>False) L).owns H3.o (λ_ _=>id));have a2:w.heap.size+1<=V.heap.size:=NT b8 L.size;have a3:Hid (∀N u,([.string j]:List Pw)[N]? =some u->V.cell? ((⟨W.heap.size,0,none⟩:Addr).add N)=some u):=λN u O=>by rw[OI,y];exact Xz W #[.string j] 9 N u O
  have b9:Hid (∀u∈([.string j]:List Pw),u.oneCell'=true):=λu O=>by simp only[OL,OM,or_false] at O;subst O;rfl
  have c0:Hid (KeepsOthers W V):=by rw[y];exact KeepsOthers.alloc _ _
  rw[y] at z a3 a2;have HV:=Kz y;clear L y
  gi_wp2_with (gi_at_builtin;refine wpListIn_append_own _ rfl (.tmp 8) (.tmp 10) 26 rfl (w.heap.size+1) 9 ic _ 1 16 underlying26 F b5 b6 b7 rfl A8 (.slice I f.length J) f.length (f.map Value.string) rfl z.o ⟨W.heap.size,0,none⟩ 1 1 [.string j] rfl rfl a3.o b9.o D5 A7 a2 ?_;intro v' m U P _;rw[<-HV.o] at P z;have Q:∀b,(Value.slice I f.length J).ownBlock=some b->w.heap.size+1<=b:=λb e=>(z.o.lt b e).1;have E:But (λb=>(Value.slice I f.length J).ownBlock=some b) V m:=But.aI P (λb e=>e);have X:w.heap.size<V.heap.size:=NR x M.o.size;have s9:J4 m w.heap.size 0 (.slice I f.length J):=(E.cell X (λe=>by have:=Q _ e;omega)).trans ((M.o.cell x).trans C);have f9:m.frozen? ⟨w.heap.size,0,none⟩=false:=(World.frozen?_of_block (w:=V) (a:=⟨w.heap.size,0,none⟩) (E.block w.heap.size X (λe=>by have:=Q _ e;omega))).trans ((M.o.rules.2 _ _ x).trans H);have z9:w.heap.size<m.heap.size:=NR X E.size;have c1:=Kz (E.kept (s.trans M.o) (λb e=>by have:=Q b e;omega));have c2:=Kz (c0.o.trans (KeepsOthers.of_grownBy P (λb o e ho=>iE (Yz z.o e) ho)));have c3:=Kz U;obtain⟨a4,a5,rfl⟩:=ay U;clear U P E Q HV z)
  have c4:Hid (KeepsFrom r.heap.size W (m.setCell ⟨w.heap.size,0,none⟩ (.slice a4 (f.length+1) a5))):=(c2.o.trans (KeepsOthers.setCell _ _ _)).from _
  refine⟨c4.o,c1.out.setCell (NQ _) _,by rw[size_setCell];exact z9,_,OX _ _ _ s9,by rw[World.frozen?_setCell];exact f9, ?_⟩;have HO:m.ownsRow (w.heap.size+1) 9 1 (.slice a4 (f.length+1) a5) (f++ [j]).length ((f++ [j]).map Value.string):=by rw[OD,Pi];exact c3.o
  rw[b4.o];exact (But.set (S:=λb=>b=w.heap.size) (But.au (K_.refl m)) (p:=⟨w.heap.size,0,none⟩) rfl _).owns HO (λb e e2=>by have:=(HO.lt b e).1;omega)
 case done=>
  rintro D W hD ⟨s,x,v,C,H,h⟩ a6;rw[Ox] at h;have c5:w.heap.size<=D:=A7;have Y:But (λb=>b=D) W (W.putObj D (.deferred none)):=⟨rfl,rfl,rfl,F9,λb _ e=>World.putObj_heap_other e⟩;have a7:Hid (K_ w (W.putObj D (.deferred none))/\(W.putObj D (.deferred none)).ownsRow w.heap.size 9 1 v l.length (l.map Value.string)):=by
   refine⟨Y.kept s (λb e=>by rw[e];exact c5),gQ (Y.owns h (λb G e=>?_)) A7⟩;have:=iE (Yz h G) (by rw[e];exact a6);cases this
  clear h Y
  gi_wp2
  exact⟨A9,.inl ⟨_,_,rfl,run_takeDeferred a6,_,results_tmp rfl _ _ _,v,rfl,a7.o.2,a7.o.1⟩⟩
theorem DN(w:Pv)(a:Nat)(d:Pt)(dc:Nat)(l:List Ps)(c:l.length<=1048576)(f:a<w.heap.size)(h:w.cell? ⟨a,0,none⟩=some (.slice d l.length dc))(i:Strs w d l):
  Calls prog 106 #[.func (.func 108) #[] #[.c a]] w λe w'=>∃v,e= .returned v/\w'.ownsRow w.heap.size 9 1 v l.length (l.map Value.string)/\K_ w w':=by
 go_enter func106,ntmps106
 go_wp2_with fail
 refine (zL w a d dc l c f h i).mono ?_;rintro e m ⟨v,rfl,b,j⟩;have k:=Kz b;clear b;go_wp2
 go_ret
 exact⟨v,rfl,k.o,j⟩
theorem xP(w:Pv)(d:Pt)(n dc:Nat):
  Calls prog 51 #[.slice d n dc] w λe w'=>e= .returned (.func (.func 108) #[] #[.c w.heap.size])/\w'=w.alloc (.cells #[.slice d n dc] 26):=by
 go_enter func51,ntmps51
 go_wp2
 go_ret
 exact⟨rfl,rfl⟩
