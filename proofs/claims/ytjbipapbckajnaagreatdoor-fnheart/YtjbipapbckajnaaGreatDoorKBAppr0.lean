import Derived.Test.YtjbipapbckajnaaGreatDoorKBApp
import Derived.Test.YtjbipapbckajnaaGreatDoorKVNeeds
set_option maxRecDepth 100000
set_option maxHeartbeats 25600000
namespace Go.Proofs.YtjbipapbckajnaaGreatDoor
open Go.RowKit Go.Proofs.Tryz
variable {tb : Nat}
section
variable {G : bQ} {Kq : List Qz} {wz w w' : NI} {bb : Nat} {a : NH} {cap : Nat} {rd : NH} {rn rc : Nat} {mb mx : Nat} {ts : List Zk} {d : NH} {dc : Nat} {f : NG -> NJ} {ws : NG -> List Nat}
theorem BM.qQ(h:BM G Kq wz w bb a cap rd rn rc mb mx ts d dc f ws){s:NG}(i:s.size<=maxLen){w1:NI}(k:w.grownBy w1 (f s).ownBlock):(Instr.lookup 117 (.map (some mb)) (.string s) false).run prog w1= .ok (f s) w1:=by
 obtain⟨N,D,_,j,l⟩:=h.map;have m:w1.ownsMap prog 9 asIs mb N D:=iH (S:=λb=>(f s).ownBlock=some b) j (But.aI k (λb e=>e)) (λe=>iq j (Y_ (h.iW s) e) rfl);obtain⟨v,q,n,c⟩:=m.lookup Tryz.keyed underlying117 (Tryz.KH w1) (zd:= .held M0) (zp:=[]) rfl (WideMaps.keyOf_string_mk underlying9 i);have e:=l s i;unfold asIs at c;simp only[MV,Prod.mk.injEq] at c;have p:(DataW.held v:DataW NJ)= .held (f s):=c.1.trans e;cases p;exact n
theorem BM.wait(h:BM G Kq wz w bb a cap rd rn rc mb mx ts d dc f ws){s:NG}(L:s.size<=maxLen){w1:NI}{r:NJ}(H:w1.ownsRow wz.heap.size 70 1 r ((ws s).length+1) ((ws s).map xI++ [xI tb]))(M:w.grownBy w1 (f s).ownBlock)(A:∀g,r.ownBlock=some g->(f s).ownBlock=some g\/w.heap.size<=g)(W:mx<=1000000):
  ∃w2,(Instr.mapUpdate 117 (.map (some mb)) (.string s) r).run prog w1= .ok () w2/\BM G Kq wz w2 bb a cap rd rn rc mb (mx+1) ts d dc (λn=>if n=s then r else f n) (λn=>if n=s then ws s++ [tb] else ws n):=by
 obtain⟨N,O,X,v,P⟩:=h.map;have I:But (λb=>(f s).ownBlock=some b) w w1:=But.aI M (λb e=>e);have J:=iH v I (λe=>iq v (Y_ (h.iW s) e) rfl);obtain⟨w2,Q,R,K⟩:=J.update Tryz.keyed underlying117 F5 (WideMaps.keyOf_string_mk underlying9 L) (d:= .held r) (ps:=[]) rfl;refine⟨w2,Q, ?_⟩;have j:But (λb=>(f s).ownBlock=some b\/b=mb) w w2:=(I.mono (λb _ e=>.inl e)).trans (But.aI K (λb e=>.inr (Ng e).symm));have S:But (λb=>b=mb) w1 w2:=But.aI K (λb e=>(Ng e).symm);have ne:∀{b:Nat} {t:TypeId},bn w b t->t≠70->¬((f s).ownBlock=some b\/b=mb):=λB E e=>by
  rcases e with e|e
  .exact aS B (Y_ (h.iW s) e) E rfl
  .exact iq v B e
 have T:∀{b:Nat} {t:TypeId},bn w1 b t->¬b=mb:=λB e=>iq J B e
 have y:=h.row.lt;have m:=ne h.row.type E8;have U:Maps.IsMap O:=by obtain⟨Y,Z,_,_,_,rfl⟩:=v;exact⟨_,rfl⟩
 have V:Fen G w2 bb mb ts (λn=>if n=s then r else f n):=by
  have p:=h.oth.but j (λb e=>by
   rcases e with e|e
   .exact h.oth.nf s b e
   .rw[e];exact h.oth.nm)
  refine⟨p.size,p.lt,p.same,p.nb,p.nm,p.nt,λn x c=>?_,p.has⟩;by_cases e:n=s
  .simp only[Nt e] at c;rcases A x c with g|g
   .exact h.oth.nf s x g
   .exact h.oth.far g
  .simp only[Nu e] at c;exact h.oth.nf n x c
 refine⟨j.kept h.kw (λb e=>?_),j.row h.row m,(j.cell y m).trans h.c0,(j.cell y m).trans h.c1,(j.cell y m).trans h.c2,(j.cell y m).trans h.c3,(j.cell y m).trans h.c4,(j.cell y m).trans h.c5,h.low,j.owns h.items (λb e i=>?_),λt z=>(h.fu t z).but j (ne (h.fu t z).row.type E8) (λx c=>ne ((h.fu t z).fq c).1 E8),h.act,h.asc,h.tbs,h.sep,h.yI,⟨N+1,_,E5,R,λn E=>?_⟩,h.Bb,λn=>?_,λn C F x c q=>?_,λn x c e=>?_,λt z=>Mh (h.qb t z) E5,V,h.gi⟩
 .rcases e with e|e
  .exact ((h.iW s).lt b e).1
  .rw[e];exact h.Bb
 .rcases i with i|i
  .exact h.AZ s b i e
  .exact iq v (Y_ h.items e) i
 .by_cases e:n=s
  .rw[Nt e,e];exact Maps.atKey_put_same (k:=dH s) U (by show WideAt.IsKeyLit (.string _);exact trivial) _ _
  .rw[Nu e,<-P n E];exact Maps.atKey_put_other (jR e) _ _
 .by_cases e:n=s
  .simp only[Nt e];have D:(ws s++ [tb]).length= (ws s).length+1:=E9;have i:(ws s++ [tb]).map xI= (ws s).map xI++ [xI tb]:=E9;rw[D,i];exact S.owns H (λb e=>T (Y_ H e))
  .simp only[Nu e];refine j.owns (h.iW n) (λb D i=>?_);rcases i with i | i
   .exact h.yG n s e b D i
   .exact iq v (Y_ (h.iW n) D) i
 .by_cases e:n=s
  .rw[Nt e] at c;rw[Nu (λl=>F (e.trans l.symm))] at q;rcases A x c with g | g
   .exact h.yG s C (λl=>F (e.trans l)) x g q
   .have:=((h.iW C).lt x q).2;omega
  .rw[Nu e] at c;by_cases l:C=s
   .rw[Nt l] at q;rcases A x q with g|g
    .exact h.yG n s e x c g
    .have:=((h.iW n).lt x c).2;omega
   .rw[Nu l] at q;exact h.yG n C F x c q
 .by_cases l:n=s
  .rw[Nt l] at c;rcases A x c with g|g
   .exact h.AZ s x g e
   .have:=(h.items.lt x e).2;omega
  .rw[Nu l] at c;exact h.AZ n x c e
end
def kv(Kq:List Qz)(ts:List Zk)(l:List NG):List NG:=l.filter λa=>(bH (Kk Kq) (Qq (Qj ts)) a).isNone
structure oL (Kq:List Qz) (ts0:List Zk) (ws0:NG->List Nat) (tb:Nat) (L1 L2:List NG) (ts:List Zk) (ws:NG->List Nat):Prop where
 env:∀n,Qq (Qj ts) n=match Qq (Qj ts0) n with | some x=>some x | none=>if eH L1 n=true/\(Kk Kq n).isSome=true then some (Q_.fresh n) else none
 me:∃t0∈ts0,∃t∈ts,t0.tb=tb/\t.tb=tb/\t.r=t0.r/\t.op=t0.op+ (kv Kq ts0 L2).length/\t.bq=t0.bq
 other:∀t∈ts,t.tb≠tb->(∃t0∈ts0,t0.tb=t.tb/\t0.r=t.r/\t0.op=t.op/\t0.bq=t.bq)\/(t.r=Q_.fresh t.r.name/\(t.op=0/\t.bq= (⟨#[]⟩,[]))/\Qq (Qj ts0) t.r.name=none)
 old:∀t0∈ts0,∃t∈ts,t.tb=t0.tb/\t.r=t0.r
 wt:∀s,ws s=if eH (kv Kq ts0 L2) s=true then ws0 s++ [tb] else ws0 s
variable {ws0 : NG -> List Nat} {Kq : List Qz} {ts0 : List Zk}
theorem oL.start{t:Zk}(h:t∈ts0):oL Kq ts0 ws0 t.tb [] [] ts0 ws0:=
 ⟨λn=>by cases Qq (Qj ts0) n <;> simp[eH],⟨t,h,t,h,rfl,rfl,rfl,rfl,rfl⟩,λu a _=>.inl ⟨u,a,rfl,rfl,rfl,rfl⟩,λu a=>⟨u,a,rfl,rfl⟩,λs=>by simp[kv,eH]⟩
variable {n : NG} {ts : List Zk}
theorem iQ :Qq (Qj ts) n=none↔∀t∈ts,t.r.name≠n:=by
 unfold Qq;rw[List.find?_eq_none];simp[Qj]
variable {ws : NG -> List Nat} {L1 L2 : List NG}
theorem oL.want{k:List Zk}(h:oL Kq ts0 ws0 tb L1 L2 ts ws)(M:df (Qj ts))(v:df (Qj k))(w:(k.map (·.tb)).Nodup)(f:Ii Kq ts n k):oL Kq ts0 ws0 tb (L1++ [n]) L2 k ws:=by
 have i:∀m,eH (L1++ [n]) m=true↔eH L1 m=true\/m=n:=λm=>by simp[cK]
 rcases f with⟨rfl,f⟩|⟨p,new,rfl,l,z,A,B⟩
 .refine⟨λm=>?_,h.me,h.other,h.old,h.wt⟩;rw[h.env m];cases q:Qq (Qj ts0) m with
  | some x=>rfl
  | none=>
   simp only;by_cases e:m=n
   .subst e;rcases f with f|⟨t,C,e⟩
    .rw[Nu (by rw[f];simp),Nu (by rw[f];simp)]
    .by_cases a:eH L1 m=true/\(Kk Kq m).isSome=true
     .rw[Nt a,Nt ⟨(i m).2 (.inl a.1),a.2⟩]
     .have:=h.env m;rw[q] at this;simp only at this;rw[Nu a] at this;exact Nv e (iQ.1 this t C)
   .by_cases a:eH L1 m=true/\(Kk Kq m).isSome=true
    .rw[Nt a,Nt ⟨(i m).2 (.inl a.1),a.2⟩]
    .rw[Nu a,Nu];rintro⟨c,d⟩;rcases (i m).1 c with g|g
     .exact a ⟨g,d⟩
     .exact e g
 .have j:∀u,u∈ts.take p++new :: ts.drop p↔u=new\/u∈ts:=λu=>by
   rw[Mo,Na];constructor
   .rintro (h|h|h)
    .exact .inr (List.mem_of_mem_take h)
    .exact .inl h
    .exact .inr (List.mem_of_mem_drop h)
   .rintro (h|h)
    .exact .inr (.inl h)
    .rw[<-Nk p ts] at h;rcases Mo.1 h with h|h
     .exact .inl h
     .exact .inr (.inr h)
  have D:Qq (Qj ts) n=none:=iQ.2 A;have y:Qq (Qj ts0) n=none:=by
   have:=h.env n;rw[D] at this;cases q:Qq (Qj ts0) n with
   | none=>rfl
   | some x=>rw[q] at this;cases this
  have E:∀m,Qq (Qj (ts.take p++new :: ts.drop p)) m=if m=n then some (Q_.fresh n) else Qq (Qj ts) m:=λm=>by
   by_cases e:m=n
   .rw[Nt e,e];have:=bJ v (r:=new.r) (Nf ((j new).2 (.inl rfl)));rw[l] at this;exact this
   .rw[Nu e];cases c:Qq (Qj ts) m with
    | some x=>
     obtain⟨F,G⟩:=aY c;obtain⟨u,b,rfl⟩:=MH.1 F;have:=bJ v (r:=u.r) (Nf ((j u).2 (.inr b)));rw[G] at this;exact this
    | none=>
     rw[iQ] at c⊢;intro u b;rcases (j u).1 b with rfl|b
     .rw[l];exact λH=>e H.symm
     .exact c u b
  have N:∀u∈ts,u.tb≠new.tb:=λu b e=>by
   have I:(ts.take p++new :: ts.drop p).map (·.tb)= (ts.take p).map (·.tb)++new.tb :: (ts.drop p).map (·.tb):=E9;rw[I] at w;have d:=List.nodup_append.1 w;rw[<-Nk p ts] at b;rcases Mo.1 b with b|b
   .exact d.2.2 _ (Nf b) _ E9 e
   .exact (List.nodup_cons.1 d.2.1).1 (by rw[<-e];exact Nf b)
  refine⟨λm=>?_, ?_,λu b J=>?_,λs K=>?_,h.wt⟩
  .rw[E m];by_cases e:m=n
   .rw[Nt e,e,y];simp only;rw[Nt ⟨(i n).2 (.inr rfl),B⟩]
   .rw[Nu e,h.env m];cases q:Qq (Qj ts0) m with
    | some x=>rfl
    | none=>
     simp only;by_cases a:eH L1 m=true/\(Kk Kq m).isSome=true
     .rw[Nt a,Nt ⟨(i m).2 (.inl a.1),a.2⟩]
     .rw[Nu a,Nu];rintro⟨c,d⟩;rcases (i m).1 c with g|g
      .exact a ⟨g,d⟩
      .exact e g
  .obtain⟨s,c,t,d,L⟩:=h.me;exact⟨s,c,t,(j t).2 (.inr d),L⟩
  .rcases (j u).1 b with rfl|b
   .exact .inr ⟨by rw[l];rfl,z,by rw[l];exact y⟩
   .exact h.other u b J
  .obtain⟨t,c,d⟩:=h.old s K;exact⟨t,(j t).2 (.inr c),d⟩
theorem oL.ans(h:oL Kq ts0 ws0 tb L1 L2 ts ws)(n:NG):bH (Kk Kq) (Qq (Qj ts)) n=bH (Kk Kq) (Qq (Qj ts0)) n:=by
 unfold bH;cases b:Kk Kq n with
 | none=>rfl
 | some A=>
  simp only;rw[h.env n];cases c:Qq (Qj ts0) n with
  | some x=>rfl
  | none=>
   simp only
   split
   .rename_i r hr
    split at hr
    .cases hr;rfl
    .cases hr
   .rfl
theorem oL.skip(h:oL Kq ts0 ws0 tb L1 L2 ts ws)(b:(bH (Kk Kq) (Qq (Qj ts0)) n).isSome=true):oL Kq ts0 ws0 tb L1 (L2++ [n]) ts ws:=by
 have e:kv Kq ts0 (L2++ [n])=kv Kq ts0 L2:=by
  unfold kv;rw[List.filter_append];cases d:bH (Kk Kq) (Qq (Qj ts0)) n with
  | none=>rw[d] at b;cases b
  | some x=>simp[d]
 exact⟨h.env,by rw[e];exact h.me,h.other,h.old,by rw[e];exact h.wt⟩
theorem oL.wait(h:oL Kq ts0 ws0 tb L1 L2 ts ws)(D:bH (Kk Kq) (Qq (Qj ts0)) n=none)(E:n∉L2){i:Nat}{t t':Zk}(hi:ts[i]? =some t)(l:t.tb=tb)(A:(ts.map (·.tb)).Nodup)(x:t'.tb=tb)(y:t'.r=t.r)(F:t'.op=t.op+1)(e0:t'.bq=t.bq):oL Kq ts0 ws0 tb L1 (L2++ [n]) (ts.set i t') (λm=>if m=n then ws n++ [tb] else ws m):=by
 obtain⟨c,rfl⟩:=Mk.1 hi;have e:kv Kq ts0 (L2++ [n])=kv Kq ts0 L2++ [n]:=by
  unfold kv;rw[List.filter_append];simp[D]
 have G:n∉kv Kq ts0 L2:=λh=>E (List.mem_filter.1 h).1
 have H:Qj (ts.set i t')=Qj ts:=by
  rw[ou c,y];have e0:ts[i].r= (Qj ts)[i]'(by simpa[Qj] using c):=by simp[Qj]
  rw[e0,List.set_getElem_self]
 have mem:∀u∈ts.set i t',u=t'\/(u∈ts/\u.tb≠tb):=λu a=>by
  obtain⟨j,b,rfl⟩:=Ms a;rw[Np] at b;rw[NF]
  split
  .exact .inl rfl
  .rename_i f
   refine .inr ⟨Mq b,λe=>?_⟩;have p:=Mr.1 A;rcases Nat.lt_or_gt_of_ne f with g | g
   .have:=p i j (by simpa using c) (by simpa using b) g;simp at this;exact this (l.trans e.symm)
   .have:=p j i (by simpa using b) (by simpa using c) g;simp at this;exact this (e.trans l.symm)
 have one:∀u∈ts,u.tb=tb->u=ts[i]:=λu a e=>by
  obtain⟨j,b,rfl⟩:=Ms a;by_cases B:i=j
  .subst B;rfl
  .have p:=Mr.1 A;rcases Nat.lt_or_gt_of_ne B with g|g
   .have:=p i j (by simpa using c) (by simpa using b) g;simp at this;exact Nv (l.trans e.symm) this
   .have:=p j i (by simpa using b) (by simpa using c) g;simp at this;exact Nv (e.trans l.symm) this
 have C:t'∈ts.set i t':=List.mem_iff_getElem.2 ⟨i,by rw[Np];exact c,E9⟩;have keep:∀u∈ts,u.tb≠tb->u∈ts.set i t':=λu a f=>by
  obtain⟨j,b,rfl⟩:=Ms a;refine List.mem_iff_getElem.2 ⟨j,by rw[Np];exact b, ?_⟩;rw[NF,Nu (λe=>f (by subst e;exact l))]
 refine⟨by rw[H];exact h.env, ?_,λu a f=>?_,λz I=>?_,λs=>?_⟩
 .obtain⟨z,q,t,v,w,J,k,K,L⟩:=h.me;have:=one t v J;subst this;exact⟨z,q,t',C,w,x,by rw[y,k],by rw[F,K,e];simp;omega,e0.trans L⟩
 .rcases mem u a with rfl|⟨a,_⟩
  .exact Nv x f
  .exact h.other u a f
 .obtain⟨t,q,v,w⟩:=h.old z I;by_cases d:t.tb=tb
  .have:=one t q d;subst this;exact⟨t',C,by rw[x,<-d,v],by rw[y,w]⟩
  .exact⟨t,keep t q d,v,w⟩
 .rw[e];by_cases d:s=n
  .subst d;rw[Nt rfl,Nt (cK.2 E9),h.wt s,Nu (λg=>G (cK.1 g))]
  .rw[Nu d,h.wt s];by_cases k:eH (kv Kq ts0 L2) s=true
   .rw[Nt k,Nt (cK.2 (Mo.2 (.inl (cK.1 k))))]
   .rw[Nu k,Nu (λg=>by
     rcases Mo.1 (cK.1 g) with g|g
     .exact k (cK.2 g)
     .exact d (Mm.1 g))]
section
variable {G : bQ} {Kq : List Qz} {wz w w' : NI} {bb : Nat} {a : NH} {cap : Nat} {rd : NH} {rn rc : Nat} {mb mx : Nat} {ts : List Zk} {d : NH} {dc : Nat} {f : NG -> NJ} {ws : NG -> List Nat}
theorem BM.len(h:BM G Kq wz w bb a cap rd rn rc mb mx ts d dc f ws)(j:Kq.length<=60):ts.length<=60:=by
 have b:=List.Nodup.length_le_of_subset (zz h.asc) (l₂:=Kq.map (·.name)) (λn c=>by
  obtain⟨r,e,rfl⟩:=MH.1 c;obtain⟨t,i,rfl⟩:=MH.1 e;exact lK (by rw[(h.act t i).1];rfl))
 simp[Qj] at b;omega
def KM(G:bQ)(Kq:List Qz)(wz:NI)(bb:Nat)(a:NH)(cap:Nat)(rd:NH)(rn rc mb mx:Nat)(ts0:List Zk)(ws0:NG->List Nat)(i:Nat)(t:Zk)(asks:List NG)(w':NI):Prop:=
 ∃(ts0' ts:List Zk) (d:NH) (dc:Nat) (f:NG->NJ) (ws:NG->List Nat),(ts0'.map λt=>(t.tb,t.r,t.op,t.bq))= ((ts0.set i {t with qs:=t.qs++asks.map Value.string}).map λt=>(t.tb,t.r,t.op,t.bq))/\BM G Kq wz w' bb a cap rd rn rc mb (mx+6) ts d dc f ws/\oL Kq ts0' ws0 t.tb asks asks ts ws
theorem Ac(F:BM G Kq wz w bb a cap rd rn rc mb mx ts d dc f ws){i:Nat}{t:Zk}(hi:ts[i]? =some t)(aa:NH)(ca:Nat)(asks:List NG)(f2:asks.length<=5)(f3:∀x∈asks,x.size<=20)(f4:asks.Nodup)(hA:Strs wz aa asks)(j4:mx<=100000)(c3:Kq.length<=60)(f5:fP Kq)(hN:bT wz a Kq)(_hww:∀s b,b∈ws s->∃t∈ts,t.tb=b)(f6:∀s,(ws s).length<=1000)(f7:t.op<=1000):
  Calls prog 119 #[.c bb,.c t.tb,.slice aa asks.length ca] w λe w'=>e= .returned (.tuple #[])/\KM G Kq wz bb a cap rd rn rc mb mx ts ws i t asks w':=by
 obtain⟨is,f8,f9,g0,g3⟩:=aU Tryz.eD;obtain⟨ip,g4,g5,g6,g7⟩:=aU Tryz.xK;have R:=F.at hi;have g8:w.cell? ⟨t.tb,10,none⟩=some t.qv:=R.rng 10 _ rfl;have tz:=R.row.lt;have g9:=F.qb t (Mv hi);have c4:=F.kw.size;have⟨HB,HI,H⟩:=dF F hi R;clear F hi R;go_enter func119,ntmps119
 go_wp2_with (at_builtin;refine eZ rfl (.tmp 14) (.tmp 15) 26 rfl wz.heap.size 9 is _ 16 underlying26 f8 f9 g0 g3 rfl t.qv t.qs.length t.qs rfl H.o.ask aa ca asks rfl (hA.kept HB.o.kw) F5 E5 c4 ?_;intro v1 w1 a4 a5 c6;obtain⟨a6,a7,rfl⟩:=ay a4;have c7:w1.heap[t.tb]? =w.heap[t.tb]? :=a5.block _ tz (λe=>aS H.o.row.type (Y_ H.o.ask e.symm) E8 rfl);have a8:=H.o.row.block c7;obtain⟨⟨_,h0⟩,h3⟩:=a8.row.at (i:=10) E5;have h4:=a8.lt;have I:=Kz (HB.o.asked HI.o (l:=asks.map Value.string) (by rw[Nn];exact a4) a5 c6 (by simpa using f2));clear a4 a5 c6 c7 a8)
 obtain⟨D,a9⟩:=aj asks.length;obtain⟨A,S⟩:=aj (ts.set i {t with qv:= .slice a6 (t.qs.length+asks.length) a7,qs:=t.qs++asks.map Value.string});rw[<-S] at I;have h5:Hid ((A.map λt=>(t.tb,t.r,t.op,t.bq))= ((ts.set i {t with qs:=t.qs++asks.map Value.string}).map λt=>(t.tb,t.r,t.op,t.bq))):=by
  show _=_;rw[S,List.map_set,List.map_set]
  rfl
 have h6:Hid (A.map (·.tb)).Nodup:=I.o.tbs;have T:Hid (∃u∈A,u.tb=t.tb/\u.op=t.op):=by
  obtain⟨hl,rfl⟩:=Mk.1 HI.o;exact⟨{ts[i] with qv:= .slice a6 (ts[i].qs.length+asks.length) a7,qs:=ts[i].qs++asks.map Value.string},by rw[S];exact List.mem_iff_getElem.2 ⟨i,by rw[Np];exact hl,by rw[List.getElem_set_self]⟩,rfl,rfl⟩
 obtain⟨W1,c8⟩:=aj (w1.setCell ⟨t.tb,10,none⟩ (.slice a6 (t.qs.length+asks.length) a7));rw[<-c8] at I⊢;obtain⟨tb,b0⟩:=aj t.tb;rw[<-b0] at T⊢;have h7:=Kz b0;have h8:t.op<=1000:=f7;obtain⟨h9,c9⟩:=aj t.op;rw[<-c9] at T h8;have b1:=Kz a9;rw[<-a9];have j5:D<=5:=E5;clear c8 S b0 h0 h3 h4 g8 tz H HI HB g9 c4 c9 a9;go_wp2
 go_loopw [21] (λx wr=>∃(k:Nat) (U:List Zk) (d2:NH) (b2:Nat) (E:NG->NJ) (p:NG->List Nat),k<=D/\x= .a k/\BM G Kq wz wr bb a cap rd rn rc mb (mx+1+k) U d2 b2 E p/\oL Kq A ws tb (asks.take k) (asks.take k) U p) (λx _=>D-(intOf x).toNat)
 case atStart=>
  obtain⟨u,c,V,_⟩:=T.o;exact⟨0,A,d,dc,f,ws,Mg _,rfl,I.o,by rw[<-V];exact oL.start c⟩
 case round=>
  clear I;obtain⟨k,U,d2,b2,E,p,hk,rfl,J,W⟩:=hrel;by_cases j6:k<D;rotate_left
  .obtain rfl:k=D:=E5;have X:asks.take k=asks:=by rw[b1.o];exact MN
   rw[X] at W;go_wp2
   go_end0
   exact⟨rfl,A,U,d2,b2,E,p,h5.o,J.more E5,by rw[<-h7.o];exact W⟩
  obtain⟨n,L⟩:∃n,asks[k]? =some n:=⟨_,Mj (by have:=b1.o;omega)⟩;have i0:n∈asks:=Mv L;have j7:=f3 n i0;have X:asks.take (k+1)=asks.take k++ [n]:=by
   obtain⟨h1,h2⟩:=Mk.1 L;rw[Ml h1,h2]
  have d0:n∉asks.take k:=λh=>by
   obtain⟨h1,h2⟩:=Mk.1 L;obtain⟨q,hq,e⟩:=Ms h;rw[MG] at hq;rw[MQ] at e;exact Mr.1 f4 q k E5 h1 E5 (e.trans h2.symm)
  obtain⟨b,o,rfl,i1,d1⟩:=hA k (by have:=b1.o;omega);have i2:wr.cell? ⟨b,o+k,none⟩=some (.string n):=by
   rw[J.kw.cell i1,d1];simp[List.getD,L]
  have j8:=J.len c3;have j9:(k:Int)<(D:Int):=E5;have⟨d4,i3,d5,i4⟩:=mM X d0 J W;clear L X d0 d1 J W;go_wp2_with fail
  refine (uE d5.o n E5 E5 f5 hN).mono ?_;rintro e w3 ⟨rfl,M,d3,b3,N,b4⟩;have k0:=N.len c3;have O:=Kz (i4.o.want d5.o.asc N.asc N.tbs b4);have i5:Hid ((∃t∈M,t.r.name=n)\/Kk Kq n=none):=by
   rcases b4 with⟨rfl,h|h⟩|⟨k1,new,rfl,hr,_⟩
   .exact .inr h
   .exact .inl h
   .exact .inl ⟨new,Mo.2 (.inr E9),by rw[hr];rfl⟩
  have d6:=Kz N;clear N b4 i2;go_wp2_with fail
  refine (nQ d6.o n E5 E5 i5.o).mono ?_;rintro e w4 ⟨⟨fa,tx,ok,rfl,b5⟩,k4⟩;rw[O.o.ans n] at b5;have d7:=Kz b5;have b6:=Kz (d6.o.kept k4);clear b5;cases ok;rotate_left
  .go_wp2
   go_roundw
   case rel=>exact⟨k+1,M,d3,b3,E,p,E5,F3,(b6.o.more E5).kept (ah _ _),by rw[d4.o];exact O.o.skip (by rw[d7.o];rfl)⟩
   case measure=>simp[intOf];omega
  obtain⟨va,vc,hf⟩:=ay (b6.o.iW n);obtain⟨j,m,d8,d9,k2⟩:∃(j:Nat) (m:Zk),M[j]? =some m/\m.tb=tb/\m.op<=2000:=by
   obtain⟨t0,i6,m,i7,V,i8,k3,k5⟩:=O.o.me;obtain⟨j,hj,rfl⟩:=Ms i7;refine⟨j,M[j],Mj hj,i8, ?_⟩;obtain⟨u,c,g1,g2⟩:=T.o;have k6:(kv Kq A (asks.take k)).length<=5:=Mh (List.length_filter_le _ _) G9;have k7:t0.op=h9:=by
    rw[<-g2];have e0:=h6.o;obtain⟨Y,e1,rfl⟩:=Ms i6;obtain⟨Z,e2,rfl⟩:=Ms c;have:Y=Z:=by
     rcases Ns Y Z with g|g|g
     .have:=Mr.1 e0 Y Z (by simpa using e1) (by simpa using e2) g;simp at this;exact Nv (V.trans g1.symm) this
     .exact g
     .have:=Mr.1 e0 Z Y (by simpa using e2) (by simpa using e1) g;simp at this;exact Nv (g1.trans V.symm) this
    subst this
    rfl
   omega
  have k8:(p n).length<=1001:=by
   rw[O.o.wt n];have:=f6 n
   split
   .rw[MU];simp;omega
   .omega
  have⟨a0,b7,B⟩:=dF hf d8 d9;clear hf d8 d9;obtain⟨W4,b8⟩:=aj (w4.alloc (.cells #[.bool fa,.string tx] 80));have a1:Hid (BM G Kq wz W4 bb a cap rd rn rc mb (mx+1+k) M d3 b3 E p):=by rw[b8];exact b6.o.kept (ah _ _)
  have e3:Hid (∀w',K_ W4 w'->w'.cell? ⟨bb,5,none⟩=some (.map (some mb))/\(Instr.lookup 117 (.map (some mb)) (.string n) false).run prog w'= .ok (.slice va (p n).length vc) w'):=λw' K=>⟨(a1.o.kept K).c5,by rw[<-a0.o];exact (a1.o.kept K).look F5⟩
  go_upto_region 7 with fail
  rw[<-b8];clear b8 k4;refine bC 14 e3.o λC KD a2=>?_
  refine au 0 a2 ?_;refine au 4 a2 ?_;refine au 8 a2 ?_;refine ai 12 (λK z=>?_);go_simp
  have K5:K_ C (C.alloc (.cells #[.c tb] 70)):=ah _ _;have b9:(C.alloc (.cells #[.c tb] 70)).cell? ⟨C.heap.size,0,none⟩=some (.c tb):=X_ C #[.c tb] 70 0 _ rfl;have c0:=KD.trans K5;refine z.out _ _ (λ_=>e3.o _ c0) ?_;clear z K a2;have y:=Kz (a1.o.kept c0);obtain⟨eb,e4⟩:=aj C.heap.size;rw[<-e4] at b9⊢;generalize i9:C.alloc (.cells #[.c tb] 70)=w6 at b9 c0 y⊢;clear i9 K5 e4;have c1:=y.o.iW n;rw[a0.o] at c1;have j0:=Kz c1;have j1:=y.o.kw.size;clear c1;try simp only[upP]
  refine ai 13 (λK z=>?_);refine step_append_lies _ rfl (.tmp 46) (.tmp 48) 118 rfl wz.heap.size 70 ip _ 1 8 underlying118 g4 g5 g6 g7 rfl E8 (.slice va (p n).length vc) (p n).length ((p n).map xI) rfl j0.o ⟨eb,0,none⟩ 1 1 [xI tb] rfl rfl (λj u c=>?_) (λu c=>?_) E8 F5 E5 j1 w6.heap.size rfl ?_
  .match j,c with
   | 0,c=>simp at c;subst c;rw[MZ];exact b9
   | j+1,c=>simp at c
  .simp at c;subst c;rfl
  intro g gc P e5 Q c2 k9;rw[<-a0.o] at Q c2;obtain⟨w8,l0,e6⟩:=y.o.wait (s:=n) (tb:=tb) F5 e5 Q (λx e=>by simp only[Value.ownBlock,MV] at e;subst e;rcases c2 with h | h;exact .inl h;exact .inr (MI h.symm)) E5;have e7:=Kz e6;have e8:But (λb=>(E n).ownBlock=some b) w6 P:=But.aI Q (λb e=>e);have j2:Hid (P.cell? ⟨bb,5,none⟩=some (.map (some mb))/\(Instr.lookup 117 (.map (some mb)) (.string n) false).run prog P= .ok (.slice va (p n).length vc) P):=by
   have w':=P;exact⟨(e8.cell y.o.row.lt (λe=>aS y.o.row.type (Y_ (y.o.iW n) e) E8 rfl)).trans y.o.c5,by have h:=y.o.qQ (s:=n) F5 Q;rw[a0.o] at h;exact h⟩
  refine af z (λ_=>j2.o) ?_;clear z K e6 e5 Q c2 e8;refine ai 14 (λK z=>?_);go_simp
  refine af z (λh=>Nv rfl h) ?_;clear z K;refine aF ?_;have a3:=e7.o.at b7.o;have o9:w8.cell? ⟨tb,9,none⟩=some (.a (m.op:Int)):=by rw[<-B.o];exact a3.rng 9 _ rfl
  have uz:tb<w8.heap.size:=by rw[<-B.o];exact a3.row.lt
  obtain⟨_,j3⟩:=a3.row.row.at (i:=9) E5;rw[B.o] at j3;have e9:=Kz (e7.o.store (t':={m with op:=m.op+1}) b7.o (o:=9) (v:= .a ((m.op+1:Nat):Int)) E5 rfl rfl rfl rfl rfl rfl rfl rfl rfl rfl);have f0:((m.op+1:Nat):Int)= (m.op:Int)+1:=E5;rw[f0,B.o] at e9;have f1:=Kz (O.o.wait (n:=n) (by rw[d7.o];rfl) i3.o b7.o B.o a1.o.tbs (t':={m with op:=m.op+1}) B.o rfl rfl rfl);rw[B.o] at f1;clear a3 f0;go_wp2
  go_roundw
  case rel=>exact⟨k+1,_,d3,b3,_,_,E5,F3,e9.o,by rw[d4.o];exact f1.o⟩
  case measure=>simp[intOf];omega
end
def KS(xs:List Xz)(w':NI)(e:Ending):Prop:=∃(a:NH) (c:Nat),e= .returned (.slice a (aL xs).length c)/\Strs w' a (aL xs)
theorem yC(w:NI)(d:NH)(M:Nat)(a:List Xz)(a6:a.length<=1000)(N:fw w d a):
  Calls prog 151 #[.slice d a.length M] w λe w'=>KS a w' e/\K_ w w':=by
 obtain⟨O,P,Q,R,S⟩:=aU Tryz.eD;go_enter func151,ntmps151
 go_wp2
 go_loopg [3,8] a.length (λT U V wr=>∃(i:Nat) (c:NH) (f:Nat),U= .slice c (aL (a.take i)).length f/\V= .a (i:Int)/\i+T=a.length/\(aL (a.take i)).length<=i/\K_ w wr/\Hid (wr.ownsRow w.heap.size 9 1 (.slice c (aL (a.take i)).length f) (aL (a.take i)).length ((aL (a.take i)).map Value.string)))
 case atStart=>exact⟨0,none,0,rfl,rfl,E5,Me _,K_.refl _,Nc _ _ _ _⟩
 case round=>
  obtain⟨i,c,f,rfl,rfl,hi,W,p,q⟩:=hrel;by_cases a7:(i:Int)<(a.length:Int)
  .have r:i<a.length:=E5;obtain⟨a8,o,rfl,hb,k⟩:=(N.kept p) i r;obtain⟨x,s⟩:=aj (a.getD i Xz.zero);rw[<-s] at k;have X:=k 0 _ rfl;have t1:=k 1 _ rfl;rw[M_] at X;have C:Hid (a.take (i+1)=a.take i++ [x]):=by show _=_;rw[Ml r,s];simp[List.getD,r]
   obtain⟨h,t⟩:=aj (aL (a.take i));rw[<-t] at W q⊢;have D:=Kz t;clear k s t;obtain⟨b,j⟩:=aj (wr.alloc (.cells #[.bool x.fail,.string x.text] 80));have E:K_ wr b:=by rw[j];exact ah _ _
   have v:b.cell? ⟨wr.heap.size,0,none⟩=some (.bool x.fail):=by rw[j];exact X_ wr #[.bool x.fail,.string x.text] 80 0 _ rfl
   have Y:b.cell? ⟨wr.heap.size,1,none⟩=some (.string x.text):=by rw[j];exact X_ wr #[.bool x.fail,.string x.text] 80 1 _ rfl
   have Z:wr.heap.size<b.heap.size:=by rw[j];simp
   go_upto_region 5 with fail
   rw[<-j];clear j;obtain⟨fb,F⟩:=aj wr.heap.size;rw[<-F] at v Y Z⊢;clear F;have G:=Kz (ak q.o E);have H:=p.trans E;cases l:x.fail
   .rw[l] at v;have y:K_ b (b.alloc (.cells #[.string x.text] 9)):=ah _ _;have I:=Kz (ak G.o y);have J:=Kz (H.trans y);have a0:w.heap.size<=(b.alloc (.cells #[.string x.text] 9)).heap.size:=J.out.size;have a1:Hid (∀m u,([.string x.text]:List NJ)[m]? =some u->(b.alloc (.cells #[.string x.text] 9)).cell? ((⟨b.heap.size,0,none⟩:Addr).add m)=some u):=λm u n=>by rw[MZ];exact X_ b #[.string x.text] 9 m u n
    have a2:Hid (∀u∈([.string x.text]:List NJ),u.oneCell'=true):=λu n=>by simp only[Na,Nb,or_false] at n;subst n;rfl
    clear y;go_wp2_with (at_builtin;refine wpList_append_own _ rfl (.tmp 15) (.tmp 18) 26 rfl w.heap.size 9 O _ 1 16 underlying26 P Q R S rfl E8 (.slice c h.length f) h.length (h.map Value.string) rfl I.o ⟨b.heap.size,0,none⟩ 1 1 [.string x.text] rfl rfl a1.o a2.o F5 E5 a0 ?_;intro v' w6 z K _;have KP:=aK J.out (Me _) I.o K;have HP:=Kz z;obtain⟨a3,a4,rfl⟩:=ay z;clear z K)
    go_roundg (gk-1)
    case measure=>omega
    case rel=>
     have e:aL (a.take (i+1))=h++ [x.text]:=by rw[C.o,lL,<-D.o,l];rfl
     exact⟨i+1,a3,a4,by rw[e,MU];rfl,F3,E5,by rw[e,MU];show h.length+1<=i+1;omega,KP,Kz (by rw[e,Ny,MU];exact HP.o)⟩
   .rw[l] at v;go_wp2
    go_roundg (gk-1)
    case measure=>omega
    case rel=>
     have e:aL (a.take (i+1))=h:=by rw[C.o,lL,<-D.o,l];simp
     exact⟨i+1,c,f,by rw[e],F3,E5,by rw[e];omega,H,Kz (by rw[e];exact G.o)⟩
  .have a5:i=a.length:=E5;obtain⟨a9,c9,A,B⟩:=bK q.o;simp only[MW,true_and] at A;rw[<-A.1] at B;have L:=Kz B;clear B A;go_wp2
   go_ret
   rw[a5,MN] at L;exact⟨⟨c,f,rfl,L.o⟩,p⟩
section
variable {G : bQ} {Kq : List Qz} {wz w w' : NI} {bb : Nat} {a : NH} {cap : Nat} {rd : NH} {rn rc : Nat} {mb mx : Nat} {ts : List Zk} {d : NH} {dc : Nat} {f : NG -> NJ} {ws : NG -> List Nat}
theorem BM.texts(m:BM G Kq wz w bb a cap rd rn rc mb mx ts d dc f ws){i:Nat}{t:Zk}(hi:ts[i]? =some t){w1:NI}{c:NJ}{l:List NG}(y:w1.ownsRow wz.heap.size 9 1 c (t.r.texts.length+l.length) (t.r.texts.map Value.string++l.map Value.string))(q:w.grownBy w1 t.tv.ownBlock)(z:∀g,c.ownBlock=some g->t.tv.ownBlock=some g\/w.heap.size<=g):
  BM G Kq wz (w1.setCell ⟨t.tb,6,none⟩ c) bb a cap rd rn rc mb mx (ts.set i {t with tv:=c,r:={t.r with texts:=t.r.texts++l}}) d dc f ws:=by
 obtain⟨n,rfl⟩:=Mk.1 hi;have h:=m.fu _ (Mq n);have k:=m.yI _ (Mq n);have H:But (λb=>b=ts[i].tb\/b∈ts[i].own) w w1:=But.aI q (λb e=>.inr (Mo.2 (.inl (MP.2 e))));have I:But (λb=>b=ts[i].tb\/b∈ts[i].own) w (w1.setCell ⟨ts[i].tb,6,none⟩ c):=But.set H (p:=⟨ts[i].tb,6,none⟩) (.inl rfl) c;have A:w1.heap[ts[i].tb]? =w.heap[ts[i].tb]? :=q.block _ h.row.lt (λe=>aS h.row.type (Y_ h.txt e.symm) E8 rfl);have s:aD w1 ts[i].tb 75 12:=h.row.block A;have J:w1.rangeAt ts[i].tb 0 ts[i].cells:=λK u v=>(Mt (w:=w) A).trans (h.rng K u v)
 have B:∀{b:Nat},bn w1 b 9->b≠ts[i].tb:=λv=>aS v s.type E8
 have C:But (λb=>b=ts[i].tb) w1 (w1.setCell ⟨ts[i].tb,6,none⟩ c):=But.set (S:=λb=>b=ts[i].tb) (But.ax (K_.refl w1)) (p:=⟨ts[i].tb,6,none⟩) rfl c;have D:w1.ownsRow wz.heap.size 9 1 ts[i].qv ts[i].qs.length ts[i].qs:=(But.aI (S:=λb=>ts[i].tv.ownBlock=some b) q (λb e=>e)).owns h.ask (λb e L=>by
  have M:b∈ts[i].tv.ownBlock.toList:=MP.2 L;have N:b∈ts[i].qv.ownBlock.toList:=MP.2 e;unfold Zk.own at k;exact (List.nodup_append.1 k).2.2 b M b N rfl)
 refine m.turn n I (λb O=>O) ⟨s.set c,mJ J s.row E5 c, ?_,C.owns D (λb e=>B (Y_ D e)),h.low⟩ rfl rfl rfl rfl rfl (λx j=>?_) ?_ (by have:=m.qb ts[i] (Mq n);exact this)
 .show World.ownsRow _ _ _ _ c (ts[i].r.texts++l).length ((ts[i].r.texts++l).map Value.string);rw[MU,Ny];exact C.owns y (λb e=>B (Y_ y e))
 .unfold Zk.own at j⊢;rcases Mo.1 j with j|j
  .rcases z x (MP.1 j) with e|e
   .exact .inl (Mo.2 (.inl (MP.2 e)))
   .exact .inr e
  .exact .inl (Mo.2 (.inr j))
 .unfold Zk.own at k⊢;rw[List.nodup_append] at k⊢;refine⟨?_,k.2.1,λx j E F=>?_⟩
  .show (c.ownBlock.toList).Nodup;cases c.ownBlock <;> simp
  .rcases z x (MP.1 j) with e|e
   .exact k.2.2 x (MP.2 e) E F
   .have:=(h.ask.lt E (MP.1 F)).2;omega
end
theorem vC{W:dA}{σ:Env}:∀{l:List NG} {xs:List Xz},Yz W σ l=some xs->xs.length=l.length/\∀k,k<l.length->bH W σ (l.getD k ByteArray.empty)=some (xs.getD k Xz.zero)
 | [],xs,h=>by
  unfold Yz at h;cases h;exact⟨rfl,λk a=>aO a⟩
 | n :: l,xs,h=>by
  unfold Yz at h;cases b:bH W σ n with
  | none=>rw[b] at h;cases h
  | some x=>
   rw[b] at h;simp only at h;cases c:Yz W σ l with
   | none=>rw[c] at h;cases h
   | some ys=>
    rw[c] at h;simp only[MV] at h;subst h;obtain⟨d,e⟩:=vC c;refine⟨by simp[d],λk a=>?_⟩;cases k with
    | zero=>simpa using b
    | succ k=>simpa using e k (by simpa using a)
section
variable {G : bQ} {Kq : List Qz} {wz w w' : NI} {bb : Nat} {a : NH} {cap : Nat} {rd : NH} {rn rc : Nat} {mb mx : Nat} {ts : List Zk} {d : NH} {dc : Nat} {f : NG -> NJ} {ws : NG -> List Nat}
def JX(G:bQ)(Kq:List Qz)(wz:NI)(bb:Nat)(a:NH)(cap:Nat)(rd:NH)(rn rc mb mx:Nat)(ts:List Zk)(d:NH)(dc:Nat)(f:NG->NJ)(ws:NG->List Nat)(i:Nat)(t:Zk)(g:bW)(xs:List Xz)(w':NI)(e:Ending):Prop:=
 (g.over=true/\e= .returned (.bool false)/\∃bl,(bl∈(stepOf ⟨t.cost,t.steps⟩ t.r.at').asks/\g.text= (⟨#[98,101,108,111,119,32]⟩:NG)++bl)/\BM G Kq wz w' bb a cap rd rn rc mb mx (iF (ts.set i (({t with bl:=bl}:Zk).ended true g.text)) (ws t.r.name)) d dc (λn=>if n=t.r.name then M0 else f n) (λn=>if n=t.r.name then [] else ws n))\/
 (g.over=false/\e= .returned (.bool true)/\∃tv',BM G Kq wz w' bb a cap rd rn rc mb mx (ts.set i {t with tv:=tv',r:={t.r with at':=g.at',texts:=t.r.texts++aL xs}}) d dc f ws)
theorem yf(D:BM G Kq wz w bb a cap rd rn rc mb mx ts d dc f ws){i:Nat}{t:Zk}(hi:ts[i]? =some t)(s:Xq)(hs:s=stepOf ⟨t.cost,t.steps⟩ t.r.at')(p7:0<=t.r.at')(h1:t.r.at' < t.steps.length)(f3:s.fin=false)(h:List Xz)(j2:Yz (Kk Kq) (Qq (Qj ts)) s.asks=some h)(f6:∀x∈h,x.text.size<=200)(f8:Followed s h (eP s h))(hF:s.Fits)(p8:s.asks.length<=5)(f9:∀x∈s.asks,x.size<=20)(j3:s.asks.length≠0->0<=s.on/\s.on<s.asks.length)(j4:Kq.length<=60)(p9:t.r.texts.length<=1000)
  (j5:t.r.name.size<=1000) (j6:(ws t.r.name).length<=1000) (hw:∀b∈ws t.r.name,∃(j:Nat) (u:Zk),j≠i/\ts[j]? =some u/\u.tb=b/\1<=u.op/\u.op<=1000) (j7:(ws t.r.name).Nodup):
  Calls prog 117 #[.c bb,.c t.tb] w λe w'=>JX G Kq wz bb a cap rd rn rc mb mx ts d dc f ws i t (eP s h) h w' e:=by
 obtain⟨ia,j8,j9,k0,k1⟩:=aU Tryz.CY;obtain⟨is,k2,k3,k4,k7⟩:=aU Tryz.eD;obtain⟨k,b6⟩:∃k:Nat,t.r.at'= (k:Int):=⟨t.r.at'.toNat,E5⟩;have k8:k<t.steps.length:=E5;have hT:=D.at hi;have g0:=D.act t (Mv hi);obtain⟨z,B,cs,g1,S,M,I,H,N,O,rfl,b7,b8,_⟩:=g0.2 k k8;have g2:t.steps.getD k Xq.zero=s:=by rw[hs];unfold stepOf;rw[b6];rfl
 rw[g2] at M b7 b8;have b9:w.cell? ⟨t.tb,8,none⟩=some (.slice t.sa t.steps.length t.sc):=hT.rng 8 _ rfl;have c1:w.cell? ⟨t.tb,4,none⟩=some (.a t.r.at'):=hT.rng 4 _ rfl;rw[g1] at b9;rw[b6] at c1;have tz:=hT.row.lt;have Y:z<w.heap.size:=Mf S D.kw.size;have t0:w.cell? ⟨z,B+k*8,none⟩=some (.slice I s.asks.length H):=(D.kw.cell S).trans (M 0 _ rfl);have t1:w.cell? ⟨z,B+k*8+1,none⟩=some (.a s.on):=(D.kw.cell S).trans (M 1 _ rfl);have t2:w.cell? ⟨z,B+k*8+2,none⟩=some (.slice N s.cases.length O):=(D.kw.cell S).trans (M 2 _ rfl);have t3:w.cell? ⟨z,B+k*8+3,none⟩=some (.a s.els):=(D.kw.cell S).trans (M 3 _ rfl);have t4:w.cell? ⟨z,B+k*8+4,none⟩=some (.a s.fall):=(D.kw.cell S).trans (M 4 _ rfl);have t5:w.cell? ⟨z,B+k*8+5,none⟩=some (.bool false):=by rw[<-f3];exact (D.kw.cell S).trans (M 5 _ rfl)
 have t6:w.cell? ⟨z,B+k*8+6,none⟩=some (.bool s.bad):=(D.kw.cell S).trans (M 6 _ rfl);have t7:w.cell? ⟨z,B+k*8+7,none⟩=some (.string s.give):=(D.kw.cell S).trans (M 7 _ rfl);have g3:Hid (∀w',K_ w w'->w'.cell? ⟨t.tb,8,none⟩=some (.slice (some ⟨z,B,none⟩) t.steps.length t.sc)/\w'.cell? ⟨t.tb,4,none⟩=some (.a (k:Int))/\w'.cell? ⟨z,B+k*8,none⟩=some (.slice I s.asks.length H)/\w'.cell? ⟨z,B+k*8+1,none⟩=some (.a s.on)/\w'.cell? ⟨z,B+k*8+2,none⟩=some (.slice N s.cases.length O)/\w'.cell? ⟨z,B+k*8+3,none⟩=some (.a s.els)/\w'.cell? ⟨z,B+k*8+4,none⟩=some (.a s.fall)/\w'.cell? ⟨z,B+k*8+5,none⟩=some (.bool false)/\w'.cell? ⟨z,B+k*8+6,none⟩=some (.bool s.bad)/\w'.cell? ⟨z,B+k*8+7,none⟩=some (.string s.give)):=λw' K=>⟨(K.cell tz).trans b9,(K.cell tz).trans c1,(K.cell Y).trans t0,(K.cell Y).trans t1,(K.cell Y).trans t2,(K.cell Y).trans t3,(K.cell Y).trans t4,(K.cell Y).trans t5,(K.cell Y).trans t6,(K.cell Y).trans t7⟩
 obtain⟨q1,g4⟩:=vC j2;have⟨l0,HB,HI,c2,l1⟩:=iZ g4 D hi b7 b8;have⟨l2,HW,l3⟩:=dF f8 hw hs;have q2:=D.kw.size;have q3:(k:Int)<(t.steps.length:Int):=E5;have q4:=D.len j4;clear D hi hT g0 g1 M b7 b8 g2 b9 c1 t0 t1 t2 t3 t4 t5 t6 t7 g4 f8 hw b6 hs;go_enter func117,ntmps117
 go_upto_region 1 with fail
 refine bC 13 g3.o λJ T q=>?_
 refine au 0 q ?_;refine au 4 q ?_;refine au 8 q ?_;refine ai 12 (λK y=>?_);go_simp
 have K2:K_ J (J.alloc (.cells #[M0,.a 0,M0,.a 0,.a 0,.bool false,.bool false,.string ⟨#[]⟩] 176)):=ah _ _;have F:aD (J.alloc (.cells #[M0,.a 0,M0,.a 0,.a 0,.bool false,.bool false,.string ⟨#[]⟩] 176)) J.heap.size 176 8:=aD.made J _ _;have KE:=T.trans K2;have nz:=T.size;obtain⟨v,g5⟩:=aj J.heap.size;refine y.out _ _ (λ_=>g3.o _ KE) ?_;clear y K q;rw[<-g5] at F nz⊢;generalize l4:J.alloc (.cells #[M0,.a 0,M0,.a 0,.a 0,.bool false,.bool false,.string ⟨#[]⟩] 176)=wE at F KE⊢;clear l4 K2 g5;try simp only[upP]
 obtain⟨⟨_,v0⟩,l5⟩:=F.row.at (i:=0) E5;obtain⟨⟨_,v1⟩,f1⟩:=F.row.at (i:=1) E5;obtain⟨⟨_,v2⟩,f2⟩:=F.row.at (i:=2) E5;obtain⟨⟨_,v3⟩,l6⟩:=F.row.at (i:=3) E5;obtain⟨⟨_,v4⟩,f4⟩:=F.row.at (i:=4) E5;obtain⟨⟨_,v5⟩,f5⟩:=F.row.at (i:=5) E5;obtain⟨⟨_,v6⟩,g6⟩:=F.row.at (i:=6) E5;obtain⟨⟨_,v7⟩,f7⟩:=F.row.at (i:=7) E5;have vz:=F.lt;refine ai 13 (λK y=>?_);go_simp
 refine af y (λL=>Nv rfl L) ?_;clear y K;refine aF ?_;have P:=Kz (Mi wE v 0 [.slice I s.asks.length H,.a s.on,.slice N s.cases.length O,.a s.els,.a s.fall,.bool false,.bool s.bad,.string s.give] (F.row.there (o:=0) (m:=8) (Me _)));have Z:=Kz (bA (g:=v) nz [.slice I s.asks.length H,.a s.on,.slice N s.cases.length O,.a s.els,.a s.fall,.bool false,.bool s.bad,.string s.give] 0 KE);have g7:=Kz (aD.sets [.slice I s.asks.length H,.a s.on,.slice N s.cases.length O,.a s.els,.a s.fall,.bool false,.bool s.bad,.string s.give] 0 F);obtain⟨U,c3⟩:=aj (wE.setCells v 0 [.slice I s.asks.length H,.a s.on,.slice N s.cases.length O,.a s.els,.a s.fall,.bool false,.bool s.bad,.string s.give]);rw[<-c3] at P Z g7;go_upto_region 2 with fail
 have g8:((((((((wE.setCell ⟨v,0,none⟩ (.slice I s.asks.length H)).setCell ⟨v,1,none⟩ (.a s.on)).setCell ⟨v,2,none⟩ (.slice N s.cases.length O)).setCell ⟨v,3,none⟩ (.a s.els)).setCell ⟨v,4,none⟩ (.a s.fall)).setCell ⟨v,5,none⟩ (.bool false)).setCell ⟨v,6,none⟩ (.bool s.bad)).setCell ⟨v,7,none⟩ (.string s.give))=U:=by rw[c3];rfl
 rw[g8];clear g8 c3 v0 v1 v2 v3 v4 v5 v6 v7 l5 f1 f2 l6 f4 f5 g6 f7 vz F KE nz T;have c4:=Kz (HB.o.kept Z.o);have q0:U.cell? ⟨v,0,none⟩=some (.slice I s.asks.length H):=P.o 0 _ rfl;have V:=g7.o.lt;have g9:Hid (∀w',K_ U w'->w'.cell? ⟨v,0,none⟩=some (.slice I s.asks.length H)/\w'.cell? ⟨v,1,none⟩=some (.a s.on)/\w'.cell? ⟨v,2,none⟩=some (.slice N s.cases.length O)/\w'.cell? ⟨v,3,none⟩=some (.a s.els)/\w'.cell? ⟨v,4,none⟩=some (.a s.fall)/\w'.cell? ⟨v,5,none⟩=some (.bool false)/\w'.cell? ⟨v,6,none⟩=some (.bool s.bad)/\w'.cell? ⟨v,7,none⟩=some (.string s.give)):=λw' K=>⟨(K.cell V).trans (P.o 0 _ rfl),(K.cell V).trans (P.o 1 _ rfl),(K.cell V).trans (P.o 2 _ rfl),(K.cell V).trans (P.o 3 _ rfl),(K.cell V).trans (P.o 4 _ rfl),(K.cell V).trans (P.o 5 _ rfl),(K.cell V).trans (P.o 6 _ rfl),(K.cell V).trans (P.o 7 _ rfl)⟩
 go_wp2
 go_loopg [6,27] s.asks.length (λgg x6 l7 wr=>∃(n:Nat) (W:NH) (cv:Nat),x6= .slice W n cv/\l7= .a (n:Int)/\n+gg=s.asks.length/\K_ U wr/\Hid (wr.ownsRow U.heap.size 80 2 (.slice W n cv) n (dC (h.take n))))
 case atStart=>exact⟨0,none,0,rfl,rfl,E5,K_.refl _,Nc _ _ _ _⟩
 case round=>
  obtain⟨n,W,cv,rfl,rfl,q5,Kr,HO⟩:=hrel;by_cases q6:(n:Int)<(s.asks.length:Int)
  .have b0:n<s.asks.length:=E5;obtain⟨a2,a0⟩:=aj (s.asks.getD n ByteArray.empty);obtain⟨x,hx⟩:=aj (h.getD n Xz.zero);have a1:=l0.o n b0;rw[<-a0,<-hx] at a1;obtain⟨b,o,rfl,c5,a3⟩:=c2.o n b0;rw[<-a0] at a3;have l8:=HB.o.kw.trans (Z.o.trans Kr);have c0:wr.cell? ⟨b,o+n,none⟩=some (.string a2):=(l8.cell c5).trans a3;have q7:a2.size<=20:=by rw[a0];simp only[List.getD,Mj b0,Nw];exact f9 _ (Mq b0)
   have l9:Hid (h.take (n+1)=h.take n++ [x]):=by
    show _=_;rw[Ml E5,hx];simp[List.getD,(E5:n<h.length)]
   have c6:Hid ((∃t∈ts,t.r.name=a2)\/Kk Kq a2=none):=by
    cases hA:Kk Kq a2 with
    | none=>exact .inr rfl
    | some A=>
     refine .inl ?_;unfold bH at a1;rw[hA] at a1;simp only at a1;cases he:Qq (Qj ts) a2 with
     | none=>rw[he] at a1;cases a1
     | some r=>
      obtain⟨h1,h2⟩:=aY he;obtain⟨u,hu,rfl⟩:=MH.1 h1;exact⟨u,hu,h2⟩
   have m0:=Kz a1;clear a0 hx a1 a3;go_wp2_with fail
   refine (nQ (c4.o.kept Kr) a2 E5 E5 c6.o).mono ?_;rintro e w4 ⟨⟨fa,tx,ok,rfl,a7⟩,h0⟩;rw[m0.o] at a7;cases ok
   .simp at a7
   simp only[if_true,MV] at a7;have K4:=Kr.trans h0;have m1:=Kz (ak HO.o h0);have HX:Hid (x= ⟨fa,tx⟩):=a7;clear a7 c0;obtain⟨W5,b1⟩:=aj ((w4.alloc (.cells #[.bool fa,.string tx] 80)).alloc (.cells #[.bool fa,.string tx] 80));have K5:K_ w4 W5:=by rw[b1];exact (ah _ _).alloc _
   have h3:=Kz (ak m1.o K5);have KK:=Kz (K4.trans K5);have m2:U.heap.size<=W5.heap.size:=KK.out.size;have m3:Hid (∀j u,([.bool fa,.string tx]:List NJ)[j]? =some u->W5.cell? ((⟨w4.heap.size+1,0,none⟩:Addr).add j)=some u):=λj u hu=>by
    rw[MZ,b1];have:=X_ (w4.alloc (.cells #[.bool fa,.string tx] 80)) #[.bool fa,.string tx] 80 j u hu;rw[MS] at this;exact this
   have m4:Hid (∀u∈([.bool fa,.string tx]:List NJ),u.oneCell'=true):=λu hu=>by simp only[Na,Nb,or_false] at hu;rcases hu with rfl | rfl <;> rfl
   have q8:n<=5:=E5;have m5:=Kz b1;clear b1;go_wp2_with (at_builtin;rw[<-m5.o];refine wpList_append_own _ rfl (.tmp 37) (.tmp 39) 181 rfl U.heap.size 80 ia _ 2 24 underlying181 j8 j9 k0 k1 rfl E8 (.slice W n cv) n (dC (h.take n)) rfl h3.o ⟨w4.heap.size+1,0,none⟩ 1 1 [.bool fa,.string tx] rfl rfl m3.o m4.o F5 E5 m2 ?_;intro v' E c7 h4 _;have KP:=aK KK.out (Me _) h3.o h4;have HP:=Kz c7;obtain⟨m6,m7,rfl⟩:=ay c7;clear c7 h4)
   go_roundg (gk-1)
   case measure=>omega
   case rel=>exact⟨n+1,m6,m7,rfl,F3,E5,KP,Kz (by rw[l9.o,oK,HX.o];exact HP.o)⟩
  .have h5:h.length=n:=E5;have b2:=Kz h5;have hO:=HO.o;rw[MO E5] at hO;obtain⟨a9,m8,e9,_,a8⟩:=jB hO;simp only[MW] at e9;obtain⟨rfl,m9,rfl⟩:=e9;clear m9;have⟨q9,h6⟩:=aH a8 a8.answers;obtain⟨u0,u1,u2,u3,u4,u5,u6,u7⟩:=g9.o wr Kr;have r0:=Mf V Kr.size;clear hO a8 q0 h5;go_wp2_with fail
   refine (vY wr s I N H O).mono ?_;rintro e w5 ⟨rfl,k5⟩;have K5:=Kr.trans k5;clear u0 u1 u2 u3 u4 u5 u6 u7;go_wp2_with fail
   have c8:=Dn w5 s f3 I N W H O cv h hF (c2.o.kept (HB.o.kw.trans (Z.o.trans K5))) (l1.o.kept (HB.o.kw.trans (Z.o.trans K5))) F5 (λc hc=>by have:=f6 c hc;unfold maxLen;omega) (h6.o.kept k5) j3 (λC hq=>by simp only[List.getD,List.getElem?_eq_getElem hq,Option.getD_some];exact f9 _ (List.getElem_mem hq));rw[b2.o] at c8;refine c8.mono ?_;rintro e E ⟨⟨g,rfl,c9⟩,k6⟩;have h7:eP s h=g:=l2.o.unique c9;have⟨h8,n0⟩:=aH h7 c9;dsimp only[bW.cells];have K6:=K5.trans k6;clear c8 c9 h7;obtain⟨X,a4⟩:=aj (E.alloc (.cells #[.a g.code,.bool g.over,.a g.at',.string g.text] 186));have h9:K_ E X:=by rw[a4];exact ah _ _
   have p1:X.cell? ⟨E.heap.size,1,none⟩=some (.bool g.over):=by rw[a4];exact X_ E #[.a g.code,.bool g.over,.a g.at',.string g.text] 186 1 _ rfl
   have n1:X.cell? ⟨E.heap.size,2,none⟩=some (.a g.at'):=by rw[a4];exact X_ E #[.a g.code,.bool g.over,.a g.at',.string g.text] 186 2 _ rfl
   have p3:X.cell? ⟨E.heap.size,3,none⟩=some (.string g.text):=by rw[a4];exact X_ E #[.a g.code,.bool g.over,.a g.at',.string g.text] 186 3 _ rfl
   have i0:E.heap.size<X.heap.size:=by rw[a4];simp
   go_upto_region 10 with fail
   rw[<-a4];clear a4;have K7:=K6.trans h9;have i1:K_ wr X:=(k5.trans k6).trans h9;have c6:=h6;have n2:Hid (∀(d0:NJ) (b:Nat),b<U.heap.size->fw (X.setCell ⟨b,4,none⟩ d0) W h):=λd0 b hb=>by
    have h1:=ak HO.o i1;rw[MO (by have:=b2.o;omega)] at h1;obtain⟨a9,m8,e9,_,a8⟩:=jB (bG h1 (p:=⟨b,4,none⟩) hb d0);simp only[MW] at e9;rw[e9.1];exact a8.answers
   cases Q:g.over
   .rw[Q] at p1;have d1:=c4.o.kept K7;have d2:=d1.at HI.o;obtain⟨⟨_,x4⟩,f4⟩:=d2.row.row.at (i:=4) E5;have n3:=d2.row.lt;have b3:=Kz (d1.store (t':={t with r:={t.r with at':=g.at'}}) HI.o (o:=4) (v:= .a g.at') E5 rfl rfl rfl rfl rfl rfl rfl rfl rfl rfl);clear d1 d2;go_upto_region 15 with fail
    obtain⟨w8,d3⟩:=aj (X.setCell ⟨t.tb,4,none⟩ (.a g.at'));have n4:t.tb<U.heap.size:=Mf tz Z.o.size;have n5:Hid (fw w8 W h):=by rw[d3];exact n2.o _ _ n4
    rw[<-d3] at b3⊢;clear d3 x4 f4 n3 p1 n1 p3;have d4:i<ts.length:=(Mk.1 HI.o).1;have b4:Hid ((ts.set i {t with r:={t.r with at':=g.at'}})[i]? =some {t with r:={t.r with at':=g.at'}}):=Nq d4;have n6:=Kz (b3.o.at b4.o);obtain⟨ta,tc,n7⟩:=ay n6.o.txt;have r1:=Kz n7;have i2:Hid (∀w',K_ w8 w'->w'.cell? ⟨t.tb,6,none⟩=some (t.tv)):=λw' K=>((b3.o.kept K).at b4.o).rng 6 _ rfl
    refine bC 12 i2.o λJ T q=>?_
    refine au 0 q ?_;refine ae 4 q ?_;refine ae 5 q ?_;refine ae 6 q ?_;refine aG 7 (λK y=>?_);go_simp
    go_at_call 151
    have d5:=yC J W cv h E5 (n5.o.kept T);rw[b2.o] at d5;refine d5.mono ?_;rintro e w9 ⟨⟨ga,gc,rfl,i3⟩,k9⟩;have K9:=T.trans k9;have a5:=Kz (b3.o.kept K9);have a6:=Kz (a5.o.at b4.o);have n8:=Kz i3;have d6:=a5.o.kw.size;have r2:(aL h).length<=5:=by have:=List.length_filter_le (λx:Xz=>!x.fail) h;unfold aL;rw[Nn];omega
    refine af y (λ_=>i2.o _ K9) ?_;clear y K q d5 i3;refine aG 8 (λK y=>?_);refine fe (.tmp 73) (.tmp 75) 26 rfl wz.heap.size 9 is _ 16 underlying26 k2 k3 k4 k7 rfl t.tv t.r.texts.length (t.r.texts.map Value.string) rfl a6.o.txt ga gc (aL h) rfl n8.o F5 E5 d6 ?_;intro v' wA d7 d8 i4;obtain⟨va,vc,rfl⟩:=ay d7;have n9:=Kz (a5.o.texts (l:=aL h) b4.o d7 d8 i4);have d9:wA.heap[t.tb]? =w9.heap[t.tb]? :=d8.block _ a6.o.row.lt (λe=>aS a6.o.row.type (Y_ a6.o.txt e.symm) E8 rfl);have e0:aD wA t.tb 75 12:=a6.o.row.block d9;have i5:Hid (wA.cell? ⟨t.tb,6,none⟩=some t.tv):=(Mt (w:=w9) d9).trans (a6.o.rng 6 _ rfl);obtain⟨⟨_,x6⟩,g6⟩:=e0.row.at (i:=6) E5;have r3:=e0.lt;refine y.out _ _ (λ_=>i5.o) ?_;clear y K d7 d8 i4 d9 e0;have q:=i5.o;try simp only[upP]
    refine ae 9 q ?_;refine ae 10 q ?_;refine ae 11 q ?_;refine ai 12 (λK y=>?_);go_simp
    refine af y (λL=>Nv rfl L) ?_;clear y K q;refine aF ?_;have e1:=n9.o;rw[List.set_set] at e1;have o0:=Kz e1;clear e1;go_wp2
    go_ret
    rw[h8.o];exact .inr ⟨Q,rfl,.slice va (t.r.texts.length+ (aL h).length) vc,o0.o⟩
   .rw[Q] at p1;obtain⟨C,o1,e2,i6,i7⟩:∃C,C<h.length/\iy (h.getD C Xz.zero)/\l_ h iy C/\g.text=jH s C:=by
     rcases n0.o with⟨_,e⟩|⟨_,⟨C,h1,h2,e3,⟨_,e⟩|⟨_,e⟩⟩|⟨_,r,_,e⟩⟩
     .rw[e] at Q;cases Q
     .exact⟨C,h1,h2,e3,by rw[e]⟩
     .rw[e] at Q;cases Q
     .rw[e] at Q;cases Q
    have e4:C<s.asks.length:=E5;obtain⟨b,o,rfl,c5,a3⟩:=c2.o C e4;obtain⟨R,b5⟩:=aj (s.asks.getD C ByteArray.empty);rw[<-b5] at a3;have o2:Hid (R∈(stepOf ⟨t.cost,t.steps⟩ t.r.at').asks/\g.text= (⟨#[98,101,108,111,119,32]⟩:NG)++R):=by
     refine⟨?_,by rw[i7,b5];rfl⟩;rw[<-l3.o,b5];simp only[List.getD,Mj e4,Nw];exact Mq e4
    have e5:Hid (∀w',K_ X w'->w'.cell? ⟨v,0,none⟩=some (.slice (some ⟨b,o,none⟩) s.asks.length H)/\w'.cell? ⟨b,o+C,none⟩=some (.string R)):=λw' K=>⟨(g9.o w' (K7.trans K)).1,((HB.o.kw.trans (Z.o.trans (K7.trans K))).cell c5).trans a3⟩
    have o3:Hid (∀r,zR h iy r->r= (C:Int)):=λr hr=>by
     rcases hr with⟨j,hj,rfl,hp,a0⟩|⟨_,a0⟩
     .rcases Ns j C with L|L|L
      .exact Nv hp (i6 j L)
      .rw[L]
      .exact Nv e2 (a0 C L)
     .exact Nv e2 (a0 C o1)
    have r4:(C:Int)<(s.asks.length:Int):=E5;clear a3 b5 e2 i6 i7;go_upto_region 11 with fail
    refine bC 9 e5.o λJ T q=>?_
    refine au 0 q ?_;refine aG 4 (λK y=>?_);go_simp
    go_at_call 167
    have e6:=zD J W cv h F5 (λc hc=>by have:=f6 c hc;unfold maxLen;omega) (c6.o.kept (i1.trans T));rw[b2.o] at e6;refine e6.mono ?_;rintro e w8 ⟨⟨o4,rfl,i8⟩,o5⟩;obtain rfl:=o3.o o4 i8;have K8:=T.trans o5;refine y.out _ _ (λ_=>e5.o _ K8) ?_;clear y K q i8 e6;have q:=e5.o _ K8;try simp only[upP]
    refine au 5 q ?_;have e7:=c4.o.kept (K7.trans K8);have e8:=e7.at HI.o;obtain⟨⟨_,o6⟩,o7⟩:=e8.row.row.at (i:=11) E5;have o8:=e8.row.lt;have a5:=Kz (e7.store (t':={t with bl:=R}) HI.o (o:=11) (v:= .string R) E5 rfl rfl rfl rfl rfl rfl rfl rfl rfl rfl);have p3:=(K8.cell (b:=E.heap.size) (o:=3) i0).trans p3;have i9:E.heap.size<w8.heap.size:=Mf i0 K8.size;have o9:E.heap.size≠t.tb:=by have:=(HB.o.at HI.o).row.lt;have r5:=(Z.o.trans K6).size;omega
    clear e7 e8;refine ai 9 (λK y=>?_);go_simp
    refine af y (λL=>Nv rfl L) ?_;clear y K q;refine aF ?_;have d4:i<ts.length:=(Mk.1 HI.o).1;have p0:(w8.setCell ⟨t.tb,11,none⟩ (.string R)).cell? ⟨E.heap.size,3,none⟩=some (.string g.text):=by rw[Zj o9];exact p3
    have d6:E.heap.size<(w8.setCell ⟨t.tb,11,none⟩ (.string R)).heap.size:=by rw[size_setCell];exact i9
    obtain⟨w9,j0⟩:=aj (w8.setCell ⟨t.tb,11,none⟩ (.string R));rw[<-j0] at a5 p0 d6⊢;clear j0 p3 o6 o7 o8 i9;go_wp2_with fail
    refine (mR a5.o (i:=i) (t:={t with bl:=R}) (Nq d4) true g.text j5 j6 (λb hb=>?_) j7).mono ?_
    .obtain⟨j,u,j1,p2,e3,p4,p5⟩:=HW.o b hb;exact⟨j,u,by rw[MC (Ne.symm j1),MC (Ne.symm j1)];exact p2,e3,p4,p5⟩
    rintro e wF ⟨rfl,f0⟩;rw[List.set_set] at f0;have p6:=Kz f0;clear f0;go_wp2
    go_ret
    rw[h8.o];exact .inl ⟨Q,rfl,R,o2.o,p6.o⟩
end
variable {ts : List Zk} {i : Nat} {t : Zk}
theorem uU{t':Zk}(hi:ts[i]? =some t)(d:(ts.map (·.tb)).Nodup):∀u∈ts.set i t',u=t'\/(u∈ts/\u.tb≠t.tb):=λu f=>by
 obtain⟨b,rfl⟩:=Mk.1 hi;obtain⟨j,a,rfl⟩:=Ms f;rw[Np] at a;rw[NF]
 split
 .exact .inl rfl
 .rename_i hne
  refine .inr ⟨Mq a,λe=>?_⟩;have c:=Mr.1 d;rcases Nat.lt_or_gt_of_ne hne with g | g
  .have:=c i j (by simpa using b) (by simpa using a) g;simp at this;exact this e.symm
  .have:=c j i (by simpa using a) (by simpa using b) g;simp at this;exact this e
theorem AU{t':Zk}(hi:ts[i]? =some t):t'∈ts.set i t'/\∀u∈ts,u.tb≠t.tb->u∈ts.set i t':=by
 obtain⟨a,rfl⟩:=Mk.1 hi;refine⟨List.mem_iff_getElem.2 ⟨i,by rw[Np];exact a,E9⟩,λu b c=>?_⟩;obtain⟨j,e,rfl⟩:=Ms b;refine List.mem_iff_getElem.2 ⟨j,by rw[Np];exact e, ?_⟩;rw[NF,Nu (λf=>c (by subst f;rfl))]
variable {l : List Nat}
theorem Bo{u:Zk}:u∈iF ts l↔∃v∈ts,u=if v.tb∈l then {v with op:=v.op-1} else v:=by
 unfold iF;rw[MH];constructor
 .rintro⟨v,a,b⟩;exact⟨v,a,b.symm⟩
 .rintro⟨v,a,b⟩;exact⟨v,a,b.symm⟩
theorem Le{v:Zk}:(if v.tb∈l then {v with op:=v.op-1} else v:Zk).bl=v.bl:=by
 by_cases h:v.tb∈l
 .rw[Nt h]
 .rw[Nu h]
theorem KO{v:Zk}:(if v.tb∈l then {v with op:=v.op-1} else v:Zk).qs=v.qs:=by
 by_cases h:v.tb∈l
 .rw[Nt h]
 .rw[Nu h]
theorem jl{v:Zk}:(if v.tb∈l then {v with op:=v.op-1} else v:Zk).tb=v.tb/\(if v.tb∈l then {v with op:=v.op-1} else v:Zk).r=v.r:=by
 by_cases h:v.tb∈l
 .rw[Nt h];exact⟨rfl,rfl⟩
 .rw[Nu h];exact⟨rfl,rfl⟩
theorem Je(a:List Zk)(l:List Nat):Qj (iF a l)=Qj a:=by
 unfold Qj iF;rw[List.map_map]
 congr 1
 funext v
 exact jl.2
theorem Aj{l:List Q_}{r a:Q_}(q:df l)(hi:l[i]? =some r)(c:a.name=r.name)(m:NG):Qq (l.set i a) m=if m=r.name then some a else Qq l m:=by
 obtain⟨k,rfl⟩:=Mk.1 hi;have n:=zT q k c;have s:a∈l.set i a:=List.mem_iff_getElem.2 ⟨i,by rw[Np];exact k,E9⟩;by_cases e:m=l[i].name
 .rw[Nt e];have:=bJ n s;rw[c,<-e] at this;exact this
 .rw[Nu e];cases h:Qq l m with
  | some x=>
   obtain⟨t,p⟩:=aY h;obtain⟨j,b,rfl⟩:=Ms t;have v:i≠j:=λd=>e (by subst d;exact p.symm)
   have f:l[j]∈l.set i a:=List.mem_iff_getElem.2 ⟨j,by rw[Np];exact b,by rw[NF,Nu v]⟩;have:=bJ n f;rw[p] at this;exact this
  | none=>
   unfold Qq at h⊢;rw[List.find?_eq_none] at h⊢;intro x f;obtain⟨j,b,rfl⟩:=Ms f;rw[Np] at b;rw[NF]
   split
   .rw[c];simpa using λd=>e d.symm
   .exact h _ (Mq b)
theorem xQ{l:List NG}{n:NG}(h:l.Nodup):(l.filter λa=>!decide (a=n)).length=if eH l n=true then l.length-1 else l.length:=by
 induction l with
 | nil=>simp[eH]
 | cons x l b=>
  rw[List.nodup_cons] at h;have b:=b h.2;by_cases e:x=n
  .subst e;have c:¬eH l x=true:=λg=>h.1 (cK.1 g)
   rw[Nu c] at b;rw[Nt (cK.2 E9)];simp[b]
  .have d:eH (x :: l) n=eH l n:=by simp[eH,e]
   rw[d];simp only[List.filter_cons,e,decide_false,Bool.not_false,if_true,MX];rw[b];by_cases g:eH l n=true
   .rw[Nt g,Nt g];have:0<l.length:=List.length_pos_of_mem (cK.1 g);omega
   .rw[Nu g,Nu g]
variable {ws : NG -> List Nat} {Kq : List Qz}
theorem BS.self(h:BS Kq ts ws)(a:t∈ts)(c:aT (Kk Kq) (Qq (Qj ts)) t.r):t.op=0/\pend (Kk Kq) (Qq (Qj ts)) t.r=[]/\∀s,t.tb∉ws s:=by
 have d:=h.good.good t.r (Nf a);obtain⟨A,e,_⟩:=d.act;have b:=((yS (by rw[e];rfl)).1 c).2;refine⟨by rw[h.op t a,b];rfl,b,λs f=>?_⟩;have:=(h.wt s t a).1 f;rw[b] at this;cases this
theorem BS.ended(D:bg (Kk Kq))(h:BS Kq ts ws)(M:(ts.map (·.tb)).Nodup){t':Zk}(hi:ts[i]? =some t)(f:aT (Kk Kq) (Qq (Qj ts)) t.r)(j:t'.r= (Xx (Kk Kq) (Qq (Qj ts)) t.r).1)(E:t'.r.over=true)(F:(Xx (Kk Kq) (Qq (Qj ts)) t.r).2=[])(G:t'.tb=t.tb)(N:t'.op=t.op)(O:zU (Kk Kq) t'.r t'.bl)(P:t'.qs=t.qs):
  BS Kq (iF (ts.set i t') (ws t.r.name)) (λn=>if n=t.r.name then [] else ws n)/\Qq (Qj (iF (ts.set i t') (ws t.r.name)))=doX (Kk Kq) (Qq (Qj ts)) t.r.name:=by
 have l:t∈ts:=Mv hi;obtain⟨Q,Y,w⟩:=h.self l f;have y:(Qj ts)[i]? =some t.r:=by unfold Qj;rw[List.getElem?_map,hi];rfl
 have R:i<ts.length:=(Mk.1 hi).1;have H:t'.r.name=t.r.name:=by rw[j,di]
 have I:Qj (iF (ts.set i t') (ws t.r.name))= (Qj ts).set i t'.r:=by rw[Je,ou R]
 have p:Qq (Qj ts) t.r.name=some t.r:=bJ h.good.asc (Nf l);have z:Qq (Qj (iF (ts.set i t') (ws t.r.name)))=doX (Kk Kq) (Qq (Qj ts)) t.r.name:=by
  funext m
  rw[I,Aj h.good.asc y H,dV p,j];by_cases e:m=t.r.name
  .rw[Nt e,Nt e]
  .rw[Nu e,Nu e];cases Qq (Qj ts) m with
   | some x=>rfl
   | none=>
    simp only;rw[Nu (by rw[F];simp[eH])]
 have J:=h.good.good t.r (Nf l);have S:(Kk Kq t.r.name).isSome=true:=by obtain⟨T,A,_⟩:=J.act;rw[A];rfl
 have K:∀x:Q_,pend (Kk Kq) (Qq (Qj (iF (ts.set i t') (ws t.r.name)))) x= (pend (Kk Kq) (Qq (Qj ts)) x).filter (λa=>!decide (a=t.r.name)):=λx=>by
  rw[z,EL p f.1 S,<-j,Nt E]
 have L:∀σ,pend (Kk Kq) σ t'.r=[]:=λσ=>by unfold pend;rw[Nt (.inl E)]
 have U:∀u∈ts,(pend (Kk Kq) (Qq (Qj ts)) u.r).Nodup:=λu d=>by
  obtain⟨T,A,V,B⟩:=(h.good.good u.r (Nf d)).act;exact Dh D A V B
 have k:∀u∈iF (ts.set i t') (ws t.r.name),u=t'\/∃v∈ts,v.tb≠t.tb/\u=if v.tb∈ws t.r.name then {v with op:=v.op-1} else v:=λu d=>by
  obtain⟨v,c,rfl⟩:=Bo.1 d;rcases uU hi M v c with rfl|⟨B,C⟩
  .left
   rw[Nu (by rw[G];exact w _)]
  .exact .inr ⟨v,B,C,rfl⟩
 refine⟨⟨⟨by rw[I];exact zT h.good.asc (Mk.1 y).1 (H.trans (congrArg Q_.name (Mk.1 y).2).symm),λx W=>?_⟩,λu d=>?_,λs u d=>?_,λs=>?_,λs b q=>?_,λu d=>?_,λu d=>?_⟩,z⟩
 rotate_right
 .rw[z];rcases k u d with rfl|⟨v,c,_,rfl⟩
  .have:=(h.qs t l).unit f;rw[F,List.map_nil,List.append_nil,<-j,<-P] at this;exact this.mono ⟨t.r,p,f⟩
  .rw[jl.2,KO];exact (h.qs v c).mono ⟨t.r,p,f⟩
 rotate_right
 .rcases k u d with rfl|⟨v,c,_,rfl⟩
  .exact O
  .rw[jl.2,Le];exact h.bl v c
 .obtain⟨u,d,rfl⟩:=MH.1 W;rcases k u d with rfl|⟨v,c,_,rfl⟩
  .rw[j];exact dP D h.good.env J f
  .rw[jl.2];exact h.good.good v.r (Nf c)
 .rcases k u d with rfl|⟨v,c,X,rfl⟩
  .rw[L,N,Q];rfl
  .rw[jl.2,K,xQ (U v c)];by_cases g:v.tb∈ws t.r.name
   .rw[Nt g,Nt (cK.2 ((h.wt _ v c).1 g))];show v.op-1=_;rw[h.op v c]
   .rw[Nu g,Nu (λC=>g ((h.wt _ v c).2 (cK.1 C)))];exact h.op v c
 .rcases k u d with rfl|⟨v,c,X,rfl⟩
  .rw[L];simp only[Nb,iff_false];intro g
   split at g
   .cases g
   .rw[G] at g;exact w _ g
  .rw[jl.1,jl.2,K,List.mem_filter];by_cases e:s=t.r.name
   .simp[e]
   .simp only[e,if_false];rw[h.wt s v c];simp
 .by_cases e:s=t.r.name
  .rw[Nt e];exact List.nodup_nil
  .rw[Nu e];exact h.wn s
 .split at q
  .cases q
  .obtain⟨v,c,e⟩:=h.ww s b q;by_cases g:v.tb=t.tb
   .exact Nv q (by rw[<-e,g];exact w s)
   .exact⟨_,Bo.2 ⟨v,(AU hi).2 v c g,rfl⟩,by rw[jl.1];exact e⟩
theorem qF(d:(ts.map (·.tb)).Nodup){u v:Zk}(f:u∈ts)(h:v∈ts)(e:u.tb=v.tb):u=v:=by
 obtain⟨i,a,rfl⟩:=Ms f;obtain⟨j,b,rfl⟩:=Ms h;have c:=Mr.1 d;rcases Ns i j with g|g|g
 .have:=c i j (by simpa using a) (by simpa using b) g;simp at this;exact Nv e this
 .subst g;rfl
 .have:=c j i (by simpa using b) (by simpa using a) g;simp at this;exact Nv e.symm this
variable {ts' : List Zk}
theorem FW(h:(ts'.map λt=>(t.tb,t.r,t.op,t.bq))= (ts.map λt=>(t.tb,t.r,t.op,t.bq))):(∀u∈ts',∃v∈ts,v.tb=u.tb/\v.r=u.r/\v.op=u.op/\v.bq=u.bq)/\(∀v∈ts,∃u∈ts',u.tb=v.tb/\u.r=v.r/\u.op=v.op/\u.bq=v.bq):=by
 constructor
 .intro u b;have:(u.tb,u.r,u.op,u.bq)∈ts'.map λt=>(t.tb,t.r,t.op,t.bq):=MH.2 ⟨u,b,rfl⟩
  rw[h] at this;obtain⟨v,c,e⟩:=MH.1 this;simp only[Prod.mk.injEq] at e;exact⟨v,c,e.1,e.2.1,e.2.2.1,e.2.2.2⟩
 .intro v c;have:(v.tb,v.r,v.op,v.bq)∈ts.map λt=>(t.tb,t.r,t.op,t.bq):=MH.2 ⟨v,c,rfl⟩
  rw[<-h] at this;obtain⟨u,b,e⟩:=MH.1 this;simp only[Prod.mk.injEq] at e;exact⟨u,b,e.1,e.2.1,e.2.2.1,e.2.2.2⟩
theorem Dy(h:(ts'.map λt=>(t.tb,t.r,t.op,t.bq))= (ts.map λt=>(t.tb,t.r,t.op,t.bq))):Qj ts'=Qj ts:=by
 have:=congrArg (List.map λp:Nat×Q_×Nat×NG×List NJ=>p.2.1) h;rw[List.map_map,List.map_map] at this;exact this
theorem BS.asked(a0:bg (Kk Kq)){ts0:List Zk}{Q:NG->List Nat}(l:BS Kq ts ws)(R:(ts.map (·.tb)).Nodup){t1:Zk}(hi:ts[i]? =some t)(x:aT (Kk Kq) (Qq (Qj ts)) t.r)(F:t1.r= (Xx (Kk Kq) (Qq (Qj ts)) t.r).1)(S:t1.r.over=false)(hv:t1.r.Zq≠0)(a1:t1.tb=t.tb)(T:t1.op=t.op/\t1.bl=t.bl/\t1.qs=t.qs++ (Xx (Kk Kq) (Qq (Qj ts)) t.r).2.map Value.string)
 (a2:(ts0.map λt=>(t.tb,t.r,t.op,t.bq))= ((ts.set i t1).map λt=>(t.tb,t.r,t.op,t.bq))) (a3:df (Qj ts')) (C:(ts'.map (·.tb)).Nodup) {A:fJ} (hA:Kk Kq t.r.name=some A) (a8:(Xx (Kk Kq) (Qq (Qj ts)) t.r).2= (stepOf A t1.r.at').asks) (n:oL Kq ts0 ws t.tb (Xx (Kk Kq) (Qq (Qj ts)) t.r).2 (Xx (Kk Kq) (Qq (Qj ts)) t.r).2 ts' Q):
  BS Kq ts' Q/\Qq (Qj ts')=doX (Kk Kq) (Qq (Qj ts)) t.r.name:=by
 have G:t∈ts:=Mv hi;obtain⟨h1,h2,U⟩:=l.self G x;have a9:(Qj ts)[i]? =some t.r:=by unfold Qj;rw[List.getElem?_map,hi];rfl
 have b0:i<ts.length:=(Mk.1 hi).1;have a4:t1.r.name=t.r.name:=by rw[F,di]
 have b1:Qj ts0= (Qj ts).set i t1.r:=by rw[Dy a2,ou b0]
 have M:Qq (Qj ts) t.r.name=some t.r:=bJ l.good.asc (Nf G);have a5:∀p,Qq (Qj ts0) p=if p=t.r.name then some t1.r else Qq (Qj ts) p:=λp=>by rw[b1];exact Aj l.good.asc a9 a4 p
 have V:Qq (Qj ts')=doX (Kk Kq) (Qq (Qj ts)) t.r.name:=by
  funext p
  rw[n.env p,a5,dV M,F];by_cases e:p=t.r.name
  .rw[Nt e,Nt e]
  .rw[Nu e,Nu e];cases Qq (Qj ts) p <;> rfl
 have hg:=l.good.good t.r (Nf G);have hw:(Kk Kq t.r.name).isSome=true:=by rw[hA];rfl
 have a6:∀H:Q_,pend (Kk Kq) (Qq (Qj ts')) H=pend (Kk Kq) (Qq (Qj ts)) H:=λH=>by
  rw[V,EL M x.1 hw,<-F,Nu (by rw[S];simp)]
 have a7:pend (Kk Kq) (Qq (Qj ts')) t1.r=kv Kq ts0 (Xx (Kk Kq) (Qq (Qj ts)) t.r).2:=by
  unfold pend kv;rw[Nu (by rw[S];simp[hv]),a4,hA];simp only;rw[a8]
  congr 1
  funext a
  rw[n.ans a]
 obtain⟨t0,b2,N,D,e1,z,e3,e4,e5⟩:=n.me;obtain⟨W,b3⟩:=FW a2;have q:N.r=t1.r/\t0.op=0/\N.bl=t.bl/\N.qs=t1.qs:=by
  obtain⟨v,d,h,c,m,O⟩:=W t0 b2;rcases uU hi R v d with rfl|⟨_,g4⟩
  .exact⟨by rw[e3,<-c],by rw[<-m,T.1,h1],(congrArg Prod.fst (e5.trans O.symm)).trans T.2.1,congrArg Prod.snd (e5.trans O.symm)⟩
  .exact Nv (h.trans e1) g4
 have old:∀u∈ts',u.tb≠t.tb->(∃v∈ts,v.tb=u.tb/\v.r=u.r/\v.op=u.op/\v.bq=u.bq)\/(u.r=Q_.fresh u.r.name/\(u.op=0/\u.bq= (⟨#[]⟩,[]))/\Qq (Qj ts) u.r.name=none):=λu j P=>by
  rcases n.other u j P with⟨u0,I,h,c,m,O⟩|⟨h,c,m⟩
  .obtain⟨v,d,E,J,X,k5⟩:=W u0 I;rcases uU hi R v d with rfl|⟨k4,_⟩
   .exact Nv (h.symm.trans (E.symm.trans a1)) P
   .exact .inl ⟨v,k4,E.trans h,J.trans c,X.trans m,k5.trans O⟩
  .refine .inr ⟨h,c, ?_⟩;rw[a5] at m
   split at m
   .cases m
   .exact m
 have keep:∀v∈ts,v.tb≠t.tb->∃u∈ts',u.tb=v.tb/\u.r=v.r:=λv d P=>by
  obtain⟨u0,I,h,c,_⟩:=b3 v ((AU hi).2 v d P);obtain⟨u,j,E,J⟩:=n.old u0 I;exact⟨u,j,E.trans h,J.trans c⟩
 have Y:∀s b,b∈Q s↔b∈ws s\/(eH (kv Kq ts0 (Xx (Kk Kq) (Qq (Qj ts)) t.r).2) s=true/\b=t.tb):=λs b=>by
  rw[n.wt s]
  split
  .rename_i g;simp[g]
  .rename_i g;simp[g]
 refine⟨⟨⟨a3,λH K=>?_⟩,λu j=>?_,λs u j=>?_,λs=>?_,λs b hb=>?_,λu j=>?_,λu j=>?_⟩,V⟩
 rotate_right
 .rw[V];by_cases g:u.tb=t.tb
  .have:=qF C j D (g.trans z.symm);rw[this,q.1,q.2.2.2,F,T.2.2];exact ((l.qs t G).unit x).mono ⟨t.r,M,x⟩
  .rcases old u j g with⟨v,d,_,c,_,m⟩|⟨h,c,_⟩
   .rw[<-c,<-show v.qs=u.qs from congrArg Prod.snd m];exact (l.qs v d).mono ⟨t.r,M,x⟩
   .exact wD.still (congrArg Prod.snd c.2) h
 rotate_right
 .by_cases g:u.tb=t.tb
  .have:=qF C j D (g.trans z.symm);rw[this,q.1,q.2.2.1];exact zU.still ((l.bl t G).open x.1) S
  .rcases old u j g with⟨v,d,_,c,_,m⟩|⟨h,c,_⟩
   .rw[<-c,<-show v.bl=u.bl from congrArg Prod.fst m];exact l.bl v d
   .exact zU.still (congrArg Prod.fst c.2) (by rw[h];rfl)
 .obtain⟨u,j,rfl⟩:=MH.1 K;by_cases g:u.tb=t.tb
  .have:=qF C j D (g.trans z.symm);rw[this,q.1,F];exact dP a0 l.good.env hg x
  .rcases old u j g with⟨v,d,_,c,_⟩|⟨h,_,_⟩
   .rw[<-c];exact l.good.good v.r (Nf d)
   .have b4:(Kk Kq u.r.name).isSome=true:=by
     have w:=bJ a3 K;rw[n.env] at w;rcases n.other u j g with⟨u0,I,E,J,_⟩|⟨_,_,X⟩
     .obtain⟨v,d,B,L,_⟩:=W u0 I;rcases uU hi R v d with rfl|⟨m4,_⟩
      .exact Nv (E.symm.trans (B.symm.trans a1)) g
      .obtain⟨b5,hB,_⟩:=(l.good.good v.r (Nf m4)).act;rw[<-J,<-L,hB];rfl
     .rw[X] at w;simp only at w
      split at w
      .rename_i h6;exact h6.2
      .cases w
    rw[h];exact gL a0 b4
 .by_cases g:u.tb=t.tb
  .have:=qF C j D (g.trans z.symm);rw[this,q.1,a7,e4,q.2.1,MM]
  .rw[a6];rcases old u j g with⟨v,d,_,c,m,_⟩|⟨h,c,_⟩
   .rw[<-c,<-m];exact l.op v d
   .rw[h,c.1,mV];rfl
 .by_cases g:u.tb=t.tb
  .have:=qF C j D (g.trans z.symm);rw[this,q.1,a7,Y,z,cK];exact⟨λk=>by rcases k with k | k;exact Nv k (U s);exact k.1,λk=>.inr ⟨k,rfl⟩⟩
  .rw[a6,Y];rcases old u j g with⟨v,d,h,c,m⟩|⟨h,c,m⟩
   .rw[<-h,<-c,<-l.wt s v d];exact⟨λk=>by rcases k with k | ⟨_,k⟩;exact k;exact Nv (h.symm.trans k) g,.inl⟩
   .rw[h,mV];simp only[Nb,iff_false];rintro (k|⟨_,k⟩)
    .obtain⟨v,d,B⟩:=l.ww s u.tb k;obtain⟨u2,Z,L,m3⟩:=keep v d (λe=>g (B.symm.trans e));have:=qF C j Z (B.symm.trans L.symm);have w:=bJ l.good.asc (Nf (f:=λt:Zk=>t.r) d);rw[<-m3,<-this,m] at w;cases w
    .exact g k
 .rw[n.wt s]
  split
  .rw[List.nodup_append];exact⟨l.wn s,E9,λH K y hy e=>by rw[Mm] at hy;rw[e,hy] at K;exact U s K⟩
  .exact l.wn s
 .rcases (Y s b).1 hb with k|⟨_,k⟩
  .obtain⟨v,d,B⟩:=l.ww s b k;by_cases g:v.tb=t.tb
   .exact Nv k (by rw[<-B,g];exact U s)
   .obtain⟨u2,Z,L,_⟩:=keep v d g;exact⟨u2,Z,L.trans B⟩
  .exact⟨N,D,z.trans k.symm⟩
def gD(wz:NI):Prop:=∀(W:NI) (give:NG) (a:NH) (cap:Nat) (l:List NG),K_ wz W->give.size<=maxLen->l.length<=maxLen->Strs W a l->l.length<=cap->Calls prog 118 #[.string give,.slice a l.length cap] W λe w'=>e= .returned (.string (mY give l))/\K_ W w'
theorem FN(w:NI)(tb:Nat)(v:Int)(a:w.cell? ⟨tb,5,none⟩=some (.a v)):
  Calls prog 115 #[.c tb] w λe w'=>Says e (v=20)/\w'=w:=by
 go_enter func115,ntmps115
 go_wp2
 go_ret
 exact⟨by simp[Says],rfl⟩
theorem qh{W:dA}{σ:Env}{r:Q_}{A:fJ}(h:aT W σ r)(c:W r.name=some A)(d:r.Zq≠0):∃a,Yz W σ (stepOf A r.at').asks=some a:=by
 rcases h.2 with h|⟨f,a,b,e⟩
 .exact Nv h d
 .rw[c] at b;cases b;exact⟨a,e⟩
variable {Kq : List Qz} {ts : List Zk}
theorem BS.Ll{a:NG->List Nat}(h:BS Kq ts a)(s:NG):(a s).length<=ts.length:=by
 have c:=List.Nodup.length_le_of_subset (h.wn s) (l₂:=ts.map (·.tb)) (λb d=>by
  obtain⟨t,e,f⟩:=h.ww s b d;exact MH.2 ⟨t,e,f⟩)
 simpa using c
variable {t : Zk}
theorem BS.waiters(n:bg (Kk Kq)){f:NG->List Nat}(h:BS Kq ts f)(_hn:(ts.map (·.tb)).Nodup){i:Nat}(hi:ts[i]? =some t)(p:aT (Kk Kq) (Qq (Qj ts)) t.r):∀b∈f t.r.name,∃(j:Nat) (u:Zk),j≠i/\ts[j]? =some u/\u.tb=b/\1<=u.op/\u.op<=1000:=λb d=>by
 obtain⟨u,c,e⟩:=h.ww _ b d;obtain⟨_,_,q⟩:=h.self (Mv hi) p;obtain⟨j,k,rfl⟩:=Ms c;have s:=(h.wt t.r.name ts[j] c).1 (by rw[e];exact d);have l:=h.op ts[j] c;refine⟨j,ts[j],λv=>?_,Mj k,e, ?_, ?_⟩
 .subst v;rw[Mj k] at hi;cases hi;exact q _ (by rw[e];exact d)
 .rw[l];exact List.length_pos_of_mem s
 .rw[l];obtain⟨A,m,w,x⟩:=(h.good.good ts[j].r (Nf c)).act;have y:=(ib (n _ _ m).1 w x).1;unfold pend
  split
  .exact Mg _
  .rw[m];simp only;have:=List.length_filter_le (λa=>(bH (Kk Kq) (Qq (Qj ts)) a).isNone) (stepOf A ts[j].r.at').asks;omega
structure uB (Kq:List Qz) (σ:Env) (t t2:Zk):Prop where
 nx:Xx (Kk Kq) σ t.r= (if (stepOf ⟨t.cost,t.steps⟩ t2.r.at').fin=true then {t2.r with over:=true,fail:=(stepOf ⟨t.cost,t.steps⟩ t2.r.at').bad,text:=mY (stepOf ⟨t.cost,t.steps⟩ t2.r.at').give t2.r.texts} else t2.r,(stepOf ⟨t.cost,t.steps⟩ t2.r.at').asks)
 lo:0<=t2.r.at'
 hi:t2.r.at' < t.steps.length
 ov:t2.r.over=false
 vi:t2.r.Zq≠0
 nm:t2.r.name=t.r.name
theorem uB.first{σ:Env}{t1:Zk}(a:t1= {t with r:={t.r with Zq:=t.r.Zq+1}})(b:t.r.Zq=0)(c:Kk Kq t.r.name=some ⟨t.cost,t.steps⟩)(d:aT (Kk Kq) σ t.r)(e:0<=t.r.at')(f:t.r.at' < t.steps.length):uB Kq σ t t1:=by
 subst a;refine⟨?_,e,f,d.1,by show t.r.Zq+1≠0;omega,rfl⟩;unfold Xx;rw[c];simp only;rw[Nt b]
 rfl
variable {xs : List Xz}
theorem Gm{σ:Env}(a:Kk Kq t.r.name=some ⟨t.cost,t.steps⟩)(b:t.r.Zq≠0)(e:t.r.Zq<20)(c:Yz (Kk Kq) σ (stepOf ⟨t.cost,t.steps⟩ t.r.at').asks=some xs)(d:(eP (stepOf ⟨t.cost,t.steps⟩ t.r.at') xs).over=true):Xx (Kk Kq) σ t.r= ({t.r with Zq:=t.r.Zq+1,over:=true,fail:=true,text:=(eP (stepOf ⟨t.cost,t.steps⟩ t.r.at') xs).text},[]):=by
 unfold Xx;rw[a];simp only;rw[Nu b,c];simp only;rw[Nu E5,Nt d]
theorem uB.gone{a:Zk}(i:bg (Kk Kq))(j:dD Kq (Qj ts))(hgd:t.r.Good Kq)(b:Kk Kq t.r.name=some ⟨t.cost,t.steps⟩)(c:aT (Kk Kq) (Qq (Qj ts)) t.r)(k:t.r.Zq≠0)(q:t.r.Zq<20)(l:Yz (Kk Kq) (Qq (Qj ts)) (stepOf ⟨t.cost,t.steps⟩ t.r.at').asks=some xs)(m:(eP (stepOf ⟨t.cost,t.steps⟩ t.r.at') xs).over=false)(h2:a.r= {t.r with Zq:=t.r.Zq+1,at':=(eP (stepOf ⟨t.cost,t.steps⟩ t.r.at') xs).at',texts:=t.r.texts++aL xs}):uB Kq (Qq (Qj ts)) t a:=by
 have d:Xx (Kk Kq) (Qq (Qj ts)) t.r= (if (stepOf ⟨t.cost,t.steps⟩ a.r.at').fin=true then {a.r with over:=true,fail:=(stepOf ⟨t.cost,t.steps⟩ a.r.at').bad,text:=mY (stepOf ⟨t.cost,t.steps⟩ a.r.at').give a.r.texts} else a.r,(stepOf ⟨t.cost,t.steps⟩ a.r.at').asks):=by
  unfold Xx;rw[b];simp only;rw[Nu k,l];simp only;rw[Nu E5,Nu (by rw[m];simp),h2]
  rfl
 have n:=(dP i j.env hgd c).act;obtain⟨s,e,f,h⟩:=n;rw[di,b] at e;cases e;have p:(Xx (Kk Kq) (Qq (Qj ts)) t.r).1.at'=a.r.at':=by rw[d];simp only;split <;> rfl
 rw[p] at f h;exact⟨d,f,h,by rw[h2];exact c.1,by rw[h2];show t.r.Zq+1≠0;have:=hgd.lo;omega,by rw[h2]⟩
theorem nT{W:dA}{σ b:Env}(h:∀a,bH W b a=bH W σ a):∀l,Yz W b l=Yz W σ l
 | []=>rfl
 | a :: l=>by unfold Yz;rw[h a,nT h l]
theorem yu{i:Nat}{t1:Zk}(a:df (Qj ts))(hi:ts[i]? =some t)(_ho:t.r.over=false)(b:t1= {t with r:={t.r with Zq:=t.r.Zq+1}}){l:List NG}:Yz (Kk Kq) (Qq (Qj (ts.set i t1))) l=Yz (Kk Kq) (Qq (Qj ts)) l:=by
 refine nT (λn=>?_) l;have d:i<ts.length:=(Mk.1 hi).1;have c:(Qj ts)[i]? =some t.r:=by unfold Qj;rw[List.getElem?_map,hi];rfl
 unfold bH;cases Kk Kq n with
 | none=>rfl
 | some A=>
  simp only;rw[ou d,Aj a c (by rw[b])];by_cases e:n=t.r.name
  .rw[Nt e,e,bJ a (Mv c),b]
  .rw[Nu e]
variable {s : Xq}
theorem DV(f:bg (Kk Kq))(v:∀y∈Kq,y.Fits)(a:Kk Kq t.r.name=some ⟨t.cost,t.steps⟩)(hgd:t.r.Good Kq)(w:aT (Kk Kq) (Qq (Qj ts)) t.r)(z:dD Kq (Qj ts))(A:t.r.Zq≠0)(b:s=stepOf ⟨t.cost,t.steps⟩ t.r.at')(c:Yz (Kk Kq) (Qq (Qj ts)) s.asks=some xs):
  s.Fits/\s.fin=false/\s.asks.length<=5/\(∀x∈s.asks,x.size<=20)/\(s.asks.length≠0->0<=s.on/\s.on<s.asks.length)/\xg s xs/\∀x∈xs,x.text.size<=200:=by
 obtain⟨J,i,B,d⟩:=hgd.act;rw[a] at i;cases i;have j:s.fin=false:=by rw[b];exact hgd.stp _ a w.1 A
 obtain⟨k,l⟩:=ib (f _ _ a).1 B d;rw[<-b] at k l;have m:∀x∈s.asks,x.size<=20:=λx c=>(l x c).2.1
 obtain⟨C,D⟩:=nu z.env m c;have E:=(f _ _ a).1.2.2 t.r.at'.toNat (by dsimp only at d⊢;omega);have F:kN s t.steps.length:=by rw[b];exact E
 have G:=(F.2 j).1.2.2.2.2.2.2.2;refine⟨?_,j,k,m,λK=>?_,C,D⟩
 .obtain⟨H,n,_,_,e⟩:=gp a;simp only[fJ.mk.injEq] at e;have I:=v _ (Mq n);have p:s∈(Kq.getD H Qz.zero).steps:=by
   rw[b,<-e.2];unfold stepOf;dsimp only at d⊢;have q:t.r.at'.toNat<t.steps.length:=E5;simp only[List.getD,Mj q,Nw];exact Mq q
  simp only[List.getD,Mj n,Nw] at p;exact I.each s p
 .rcases G with h|h
  .rw[h];omega
  .exact h
theorem step_ok{x:Int}(a:bg (Kk Kq))(b:Kk Kq t.r.name=some ⟨t.cost,t.steps⟩)(d:0<=x)(e:x<t.steps.length)(c:s=stepOf ⟨t.cost,t.steps⟩ x):kN s t.steps.length:=by
 rw[c];exact (a _ _ b).1.2.2 x.toNat (by dsimp only;omega)
theorem yl{x:Int}(a:bg (Kk Kq))(b:Kk Kq t.r.name=some ⟨t.cost,t.steps⟩)(c:0<=x)(d:x<t.steps.length)(e:s=stepOf ⟨t.cost,t.steps⟩ x)(f:s.fin=true):s.asks=[]:=
 Mw.1 ((step_ok a b c d e).1 f).1
theorem uM{x:Int}(c:bg (Kk Kq))(d:Kk Kq t.r.name=some ⟨t.cost,t.steps⟩)(e:0<=x)(f:x<t.steps.length)(i:s=stepOf ⟨t.cost,t.steps⟩ x):s.asks.Nodup:=by
 have h:=step_ok c d e f i;cases a:s.fin with
 | true=>rw[Mw.1 (h.1 a).1];exact List.nodup_nil
 | false=>
  have j:=(h.2 a).1.2.2.2.1;rw[List.Nodup,Mr];intro k l m b n p;have:=(j l b).2 k n;simp only[List.getD,Mj m,Mj b,Nw] at this;exact this p
theorem FC{x:Int}(d:∀y∈Kq,y.Fits)(f:Kk Kq t.r.name=some ⟨t.cost,t.steps⟩)(j:0<=x)(l:x<t.steps.length)(h:s=stepOf ⟨t.cost,t.steps⟩ x):s.give.size<=maxLen:=by
 obtain⟨k,a,_,_,e⟩:=gp f;simp only[fJ.mk.injEq] at e;have i:=d _ (Mq a);have b:s∈(Kq.getD k Qz.zero).steps:=by
  rw[h,<-e.2];unfold stepOf;dsimp only;have c:x.toNat<t.steps.length:=E5;simp only[List.getD,Mj c,Nw];exact Mq c
 simp only[List.getD,Mj a,Nw] at b;exact (i.each s b).give
theorem FZ{a:Zk}(c:bg (Kk Kq))(d:dD Kq (Qj ts))(hgd:t.r.Good Kq)(e:aT (Kk Kq) (Qq (Qj ts)) t.r)(h:uB Kq (Qq (Qj ts)) t a):a.r.texts.length<=1000:=by
 have b:=dP c d.env hgd e;have f:(Xx (Kk Kq) (Qq (Qj ts)) t.r).1.texts=a.r.texts:=by rw[h.nx];simp only;split <;> rfl
 have i:=b.tl;have j:=b.hi;rw[f] at i;omega
def Lu(G:bQ)(Kq:List Qz)(wz:NI)(bb:Nat)(a:NH)(cap:Nat)(rd:NH)(rn rc mb mx:Nat)(ts:List Zk)(d:NH)(dc:Nat)(f:NG->NJ)(ws:NG->List Nat)(i:Nat)(t:Zk)(b:Bool)(w':NI):Prop:=
 (b=true/\∃ts' f' ws',BM G Kq wz w' bb a cap rd rn rc mb mx ts' d dc f' ws'/\BS Kq ts' ws'/\Qq (Qj ts')=doX (Kk Kq) (Qq (Qj ts)) t.r.name)\/
 (b=false/\∃t2,BM G Kq wz w' bb a cap rd rn rc mb mx (ts.set i t2) d dc f ws/\t2.tb=t.tb/\(t2.op=t.op/\t2.bl=t.bl/\t2.qs=t.qs)/\t2.cost=t.cost/\t2.steps=t.steps/\uB Kq (Qq (Qj ts)) t t2)
section
variable {G : bQ} {Kq : List Qz} {wz w w' : NI} {bb : Nat} {a : NH} {cap : Nat} {rd : NH} {rn rc : Nat} {mb mx : Nat} {ts : List Zk} {d : NH} {dc : Nat} {f : NG -> NJ} {ws : NG -> List Nat}
theorem ug(hB:BM G Kq wz w bb a cap rd rn rc mb mx ts d dc f ws)(hS:BS Kq ts ws){i:Nat}(hi:ts[i]? =some t)(hc:aT (Kk Kq) (Qq (Qj ts)) t.r)(E:bg (Kk Kq))(e7:∀y∈Kq,y.Fits)(c2:Kq.length<=60)(j1:fP Kq)(hN:bT wz a Kq)(m3:mx<=90000)(j2:gD wz):
  Calls prog 59 #[.c bb,.c t.tb] w λe w'=>e= .returned (.tuple #[])/\∃W d' c3 f' a1,BM G Kq wz w' bb a cap rd rn rc mb (mx+6) W d' c3 f' a1/\BS Kq W a1/\Qq (Qj W)=doX (Kk Kq) (Qq (Qj ts)) t.r.name:=by
 have ht:t∈ts:=List.mem_of_getElem? hi;obtain⟨m4,j3,m5⟩:=hS.self ht hc;have hgd:=hS.good.good t.r (List.mem_map_of_mem ht);have hA:=(hB.act t ht).1;obtain⟨A',e8,f0,c4⟩:=hgd.act;rw[hA] at e8;cases e8;dsimp only at c4;have hT:=hB.at hi;have j4:w.cell? ⟨t.tb,5,none⟩=some (.a t.r.Zq):=hT.rng 5 _ rfl;have tz:=hT.row.lt;obtain⟨_,f1⟩:=hT.row.row.at (i:=5) E5;have lo:=hgd.lo;have m6:=hgd.hi;have m7:=hB.len c2;have f2:i<ts.length:=(List.getElem?_eq_some_iff.1 hi).1;have c5:=Kz (hS.waiters E hB.tbs hi hc);have m8:=hS.Ll t.r.name;have c6:t.r.name.size<=1000:=by have:=(E _ _ hA).2.2.1;omega
 have⟨HB,q,F,A,x⟩:=iZ hB hS hi hc hA;have HG:=Kz hgd;clear hB hS hi hc hA hT hgd j3;go_enter func59,ntmps59
 go_wp2_with fail
 refine (FN w t.tb t.r.Zq j4).mono ?_;rintro e w0 ⟨c7,f3⟩;rw[f3];clear f3 w0;rcases c7.cases with⟨rfl,a9⟩|⟨rfl,a9⟩
 .have b7:=Kz a9;clear a9 c7;go_wp2_with fail
  refine (mR HB.o F.o true iJ c6 E5 (λb N=>?_) (q.o.wn _)).mono ?_
  .obtain⟨b0,u,X,b1,h3,h4,h5⟩:=c5.o b N;exact⟨b0,u,by rw[MC (Ne.symm X)];exact b1,h3,h4,h5⟩
  rintro e wF ⟨rfl,a2⟩;have d0:=Kz a2;clear a2;go_wp2_with fail
  refine bodyPost_ret (results_none rfl _ _ _) rfl ?_;obtain⟨xs,Y⟩:=qh A.o x.o (by have:=b7.o;omega);have n:Xx (Kk Kq) (Qq (Qj ts)) t.r= ({t.r with over:=true,fail:=true,text:=iJ},[]):=by
   unfold Xx;rw[x.o];simp only;rw[Nu (by have:=b7.o;omega),Y];simp only;rw[Nt b7.o]
  obtain⟨q1,q2⟩:=q.o.ended E HB.o.tbs (t':=t.ended true iJ) F.o A.o (by rw[n];rfl) rfl (by rw[n]) rfl rfl (.inl ⟨(q.o.bl t (Mv F.o)).open A.o.1,λ_ _=>.inl rfl⟩) rfl;exact⟨rfl,_,d,dc,_,_,d0.o.more E5,q1,q2⟩
 .have b7:=Kz a9;have f4:t.r.Zq<20:=E5;clear a9 c7;obtain⟨O,b8⟩:∃O:Zk,O= {t with r:={t.r with Zq:=t.r.Zq+1}}:=⟨_,rfl⟩;obtain⟨W1,d1⟩:=aj (w.setCell ⟨t.tb,5,none⟩ (.a (t.r.Zq+1)));have d2:Hid (BM G Kq wz W1 bb a cap rd rn rc mb mx (ts.set i O) d dc f ws):=by rw[d1,b8];exact HB.o.store F.o E5 rfl rfl rfl rfl rfl rfl rfl rfl rfl rfl
  have f5:Hid ((ts.set i O)[i]? =some O):=Nq f2;go_upto_region 3 with fail
  rw[<-d1];clear d1;have j5:W1.cell? ⟨t.tb,5,none⟩=some (.a (t.r.Zq+1)):=by have h:=(d2.o.at f5.o).rng 5 _ rfl;rw[b8] at h;exact h
  have k:=Kz b8;clear b8;go_cut [30] from 19 to 29 (λj6 wx=>∃b:Bool,j6= .bool b/\Lu G Kq wz bb a cap rd rn rc mb mx ts d dc f ws i t b wx)
  case first=>
   by_cases a3:t.r.Zq=0
   .have j7:¬(1:Int)<t.r.Zq+1:=E5;have j8:=Kz a3;clear a3;go_wp2
    go_meet
    exact⟨false,rfl,.inr ⟨rfl,O,d2.o,by rw[k.o],by rw[k.o];exact⟨rfl,rfl,rfl⟩,by rw[k.o],by rw[k.o],uB.first k.o j8.o x.o A.o f0 c4⟩⟩
   .have j7:(1:Int)<t.r.Zq+1:=E5;have d3:=Kz a3;obtain⟨xs,Y⟩:=qh A.o x.o a3;obtain⟨s,H⟩:=aj (stepOf ⟨t.cost,t.steps⟩ t.r.at');rw[<-H] at Y;obtain⟨hF,P,b2,f6,f7,f8,f9⟩:=DV E e7 x.o HG.o A.o q.o.good a3 H Y;have g0:Yz (Kk Kq) (Qq (Qj (ts.set i O))) s.asks=some xs:=by rw[yu q.o.good.asc F.o A.o.1 k.o];exact Y
    have j9:t.r.texts.length<=1000:=by have:=HG.o.tl;omega
    have⟨g2,a4⟩:=aH Y H;have g3:=Kz (yf d2.o (t:=O) f5.o s (by rw[k.o];exact H) (by rw[k.o];exact f0) (by rw[k.o];exact c4) P xs g0 f9 (iT f8) hF b2 f6 f7 c2 (by rw[k.o];exact j9) (by rw[k.o];exact c6) (by rw[k.o];show (ws t.r.name).length<=1000;omega) (λb N=>by
     rw[k.o] at N;obtain⟨b0,u,X,b1,h3,h4,h5⟩:=c5.o b N;exact⟨b0,u,X,by rw[MC (Ne.symm X)];exact b1,h3,h4,h5⟩) (by rw[k.o];exact q.o.wn _))
    have k0:Hid (O.tb=t.tb):=by rw[k.o];rfl
    rw[k0.o] at g3;clear a3 Y H hF P b2 f6 f7 f8 f9 g0;go_wp2_with fail
    refine g3.o.mono ?_;rintro e B (⟨b3,rfl,bl,g4,b4⟩|⟨b3,rfl,m9,b4⟩)
    .have g5:=Kz g4;clear g4;have⟨d4,d5⟩:=aH b4 b3;clear b4 b3;go_wp2
     go_meet
     have b5:=d4.o;rw[k.o,List.set_set] at b5;have n:=Gm x.o d3.o f4 (by rw[<-a4.o];exact g2.o) (by rw[<-a4.o];exact d5.o);obtain⟨q1,q2⟩:=q.o.ended E HB.o.tbs (t':=(({t with bl:=bl,r:={t.r with Zq:=t.r.Zq+1}}:Zk).ended true (eP s xs).text)) F.o A.o (by rw[n,a4.o];rfl) rfl (by rw[n]) rfl rfl (.inr ⟨rfl,rfl,⟨⟨t.cost,t.steps⟩,x.o,HG.o.stp _ x.o A.o.1 d3.o,by have h:=g5.o.1;rw[k.o] at h;exact h⟩,g5.o.2⟩) rfl;exact⟨true,rfl,.inl ⟨rfl,_,_,_,b5,q1,q2⟩⟩
    .have d4:=Kz b4;have d5:=Kz b3;clear b4 b3;go_wp2
     go_meet
     have b5:=d4.o;rw[k.o,List.set_set] at b5;exact⟨false,rfl,.inr ⟨rfl,_,b5,rfl,⟨rfl,rfl,rfl⟩,rfl,rfl,uB.gone E q.o.good HG.o x.o A.o d3.o f4 (by rw[<-a4.o];exact g2.o) (by rw[<-a4.o];exact d5.o) (by rw[<-a4.o])⟩⟩
  case rest=>
   obtain⟨b,rfl,hm⟩:=hcut;obtain⟨B,rfl⟩:=aj wc;rcases hm with⟨rfl,W,f',a1,g6,g7,g8⟩|⟨rfl,c,D,e1,e2,k1,d6,Q⟩
   .have k2:=Kz g6;have⟨k3,k4⟩:=aH g7 g8;clear g6 g7 g8;go_wp2_with fail
    refine bodyPost_ret (results_none rfl _ _ _) rfl ?_;exact⟨rfl,W,d,dc,f',a1,k2.o.more E5,k3.o,k4.o⟩
   have b9:(ts.set i c)[i]? =some c:=Nq f2;have c0:=D.at b9;have g9:=D.act c (Mv b9);obtain⟨j,d7⟩:∃j:Nat,c.r.at'= (j:Int):=⟨c.r.at'.toNat,by have:=Q.lo;omega⟩;have k5:j<c.steps.length:=by have:=Q.hi;rw[d6];omega
   obtain⟨l,p,cs,h1,R,L,S,T,Z,a0,rfl,d8,h2,_⟩:=g9.2 j k5;obtain⟨s,H⟩:=aj (stepOf ⟨t.cost,t.steps⟩ c.r.at');have h6:c.steps.getD j Xq.zero=s:=by rw[H,d6];unfold stepOf;rw[d7];rfl
   rw[h6] at L d8 h2;have c8:B.cell? ⟨t.tb,8,none⟩=some (.slice c.sa c.steps.length c.sc):=by rw[<-e1];exact c0.rng 8 _ rfl
   have d9:B.cell? ⟨t.tb,4,none⟩=some (.a c.r.at'):=by rw[<-e1];exact c0.rng 4 _ rfl
   rw[h1] at c8;rw[d7] at d9;have h7:t.tb<B.heap.size:=by rw[<-e1];exact c0.row.lt
   have V:l<B.heap.size:=Mf R D.kw.size;have y0:B.cell? ⟨l,p+j*8,none⟩=some (.slice S s.asks.length T):=(D.kw.cell R).trans (L 0 _ rfl);have y1:B.cell? ⟨l,p+j*8+1,none⟩=some (.a s.on):=(D.kw.cell R).trans (L 1 _ rfl);have y2:B.cell? ⟨l,p+j*8+2,none⟩=some (.slice Z s.cases.length a0):=(D.kw.cell R).trans (L 2 _ rfl);have y3:B.cell? ⟨l,p+j*8+3,none⟩=some (.a s.els):=(D.kw.cell R).trans (L 3 _ rfl);have y4:B.cell? ⟨l,p+j*8+4,none⟩=some (.a s.fall):=(D.kw.cell R).trans (L 4 _ rfl);have y5:B.cell? ⟨l,p+j*8+5,none⟩=some (.bool s.fin):=(D.kw.cell R).trans (L 5 _ rfl);have y6:B.cell? ⟨l,p+j*8+6,none⟩=some (.bool s.bad):=(D.kw.cell R).trans (L 6 _ rfl);have y7:B.cell? ⟨l,p+j*8+7,none⟩=some (.string s.give):=(D.kw.cell R).trans (L 7 _ rfl);have h8:Hid (∀w',K_ B w'->w'.cell? ⟨t.tb,8,none⟩=some (.slice (some ⟨l,p,none⟩) c.steps.length c.sc)/\w'.cell? ⟨t.tb,4,none⟩=some (.a (j:Int))/\w'.cell? ⟨l,p+j*8,none⟩=some (.slice S s.asks.length T)/\w'.cell? ⟨l,p+j*8+1,none⟩=some (.a s.on)/\w'.cell? ⟨l,p+j*8+2,none⟩=some (.slice Z s.cases.length a0)/\w'.cell? ⟨l,p+j*8+3,none⟩=some (.a s.els)/\w'.cell? ⟨l,p+j*8+4,none⟩=some (.a s.fall)/\w'.cell? ⟨l,p+j*8+5,none⟩=some (.bool s.fin)/\w'.cell? ⟨l,p+j*8+6,none⟩=some (.bool s.bad)/\w'.cell? ⟨l,p+j*8+7,none⟩=some (.string s.give)):=λw' K=>⟨(K.cell h7).trans c8,(K.cell h7).trans d9,(K.cell V).trans y0,(K.cell V).trans y1,(K.cell V).trans y2,(K.cell V).trans y3,(K.cell V).trans y4,(K.cell V).trans y5,(K.cell V).trans y6,(K.cell V).trans y7⟩
   have⟨i0,a5,k7,M,a6⟩:=iZ D b9 d8 Q H;have⟨E1,E2⟩:=aH e1 e2;have n0:(j:Int)<(c.steps.length:Int):=E5;obtain⟨g1,i1⟩:=ib (E _ _ x.o).1 Q.lo (by exact Q.hi);rw[<-H] at g1 i1;have k8:s.give.size<=maxLen:=FC e7 x.o Q.lo Q.hi H;have n1:c.r.texts.length<=1000:=FZ E q.o.good HG.o A.o Q;clear D b9 c0 g9 h1 L d8 h2 h6 c8 d9 y0 y1 y2 y3 y4 y5 y6 y7 Q d7 H e1 e2 k1 d6 j5;go_upto_region 4 with fail
   refine bC 13 h8.o λU KD I=>?_
   refine au 0 I ?_;refine au 4 I ?_;refine au 8 I ?_;refine ai 12 (λK J=>?_);go_simp
   have K2:K_ U (U.alloc (.cells #[M0,.a 0,M0,.a 0,.a 0,.bool false,.bool false,.string ⟨#[]⟩] 176)):=ah _ _;have C:aD (U.alloc (.cells #[M0,.a 0,M0,.a 0,.a 0,.bool false,.bool false,.string ⟨#[]⟩] 176)) U.heap.size 176 8:=aD.made U _ _;have KE:=KD.trans K2;have nz:=KD.size;obtain⟨z,i2⟩:=aj U.heap.size;refine J.out _ _ (λ_=>h8.o _ KE) ?_;clear J K I;rw[<-i2] at C nz⊢;generalize k9:U.alloc (.cells #[M0,.a 0,M0,.a 0,.a 0,.bool false,.bool false,.string ⟨#[]⟩] 176)=wE at C KE⊢;clear k9 K2 i2;try simp only[upP]
   obtain⟨⟨_,v0⟩,l0⟩:=C.row.at (i:=0) E5;obtain⟨⟨_,v1⟩,l1⟩:=C.row.at (i:=1) E5;obtain⟨⟨_,v2⟩,l2⟩:=C.row.at (i:=2) E5;obtain⟨⟨_,v3⟩,l3⟩:=C.row.at (i:=3) E5;obtain⟨⟨_,v4⟩,l4⟩:=C.row.at (i:=4) E5;obtain⟨⟨_,v5⟩,f1⟩:=C.row.at (i:=5) E5;obtain⟨⟨_,v6⟩,l5⟩:=C.row.at (i:=6) E5;obtain⟨⟨_,v7⟩,l6⟩:=C.row.at (i:=7) E5;have vz:=C.lt;refine ai 13 (λK J=>?_);go_simp
   refine af J (λh=>Nv rfl h) ?_;clear J K;refine aF ?_;have b6:=Kz (Mi wE z 0 [.slice S s.asks.length T,.a s.on,.slice Z s.cases.length a0,.a s.els,.a s.fall,.bool s.fin,.bool s.bad,.string s.give] (C.row.there (o:=0) (m:=8) (Me _)));have e0:=Kz (bA (g:=z) nz [.slice S s.asks.length T,.a s.on,.slice Z s.cases.length a0,.a s.els,.a s.fall,.bool s.fin,.bool s.bad,.string s.give] 0 KE);have i3:=Kz (aD.sets [.slice S s.asks.length T,.a s.on,.slice Z s.cases.length a0,.a s.els,.a s.fall,.bool s.fin,.bool s.bad,.string s.give] 0 C);obtain⟨w5,e3⟩:=aj (wE.setCells z 0 [.slice S s.asks.length T,.a s.on,.slice Z s.cases.length a0,.a s.els,.a s.fall,.bool s.fin,.bool s.bad,.string s.give]);rw[<-e3] at b6 e0 i3;go_upto_region 5 with fail
   have i4:((((((((wE.setCell ⟨z,0,none⟩ (.slice S s.asks.length T)).setCell ⟨z,1,none⟩ (.a s.on)).setCell ⟨z,2,none⟩ (.slice Z s.cases.length a0)).setCell ⟨z,3,none⟩ (.a s.els)).setCell ⟨z,4,none⟩ (.a s.fall)).setCell ⟨z,5,none⟩ (.bool s.fin)).setCell ⟨z,6,none⟩ (.bool s.bad)).setCell ⟨z,7,none⟩ (.string s.give))=w5:=by rw[e3];rfl
   rw[i4];clear i4 e3 v0 v1 v2 v3 v4 v5 v6 v7 l0 l1 l2 l3 l4 f1 l5 l6 vz C KE nz KD;have a7:=Kz (i0.o.kept e0.o);have q5:w5.cell? ⟨z,5,none⟩=some (.bool s.fin):=b6.o 5 _ rfl;have gz:=i3.o.lt;cases P:s.fin
   .rw[P] at q5;have n2:w5.cell? ⟨z,0,none⟩=some (.slice S s.asks.length T):=b6.o 0 _ rfl;have i5:=Kz (Ac a7.o a5.o S T s.asks g1 (λl7 hx=>(i1 l7 hx).2.1) (uM E x.o M.o.lo M.o.hi a6.o) k7.o E5 c2 j1 hN (λs' b N=>?_) (λs'=>by have:=q.o.Ll s';omega) (by rw[E2.out.1];omega));rotate_left
    .obtain⟨v,hv,e⟩:=q.o.ww s' b N;by_cases g:v.tb=t.tb
     .exact⟨c,(AU F.o).1,by rw[E1.out,<-g,e]⟩
     .exact⟨v,(AU F.o).2 v hv g,e⟩
    rw[E1.out] at i5;go_wp2_with fail
    refine i5.o.mono ?_;rintro e w6 ⟨rfl,l8,W,d',c3,f',a1,b2,i6,i7⟩;have⟨e4,l9,m0⟩:=dF i6 i7 b2;clear i6 i7 b2;go_wp2
    go_end0
    have n:=M.o.nx;rw[<-a6.o,P] at n;simp only[Bool.false_eq_true,if_false] at n;obtain⟨z1,z2⟩:=q.o.asked E HB.o.tbs (ts0:=l8) (t1:={c with qs:=c.qs++s.asks.map Value.string}) F.o A.o (by show c.r=_;rw[n]) M.o.ov M.o.vi E1.out ⟨E2.out.1,E2.out.2.1,by show c.qs++_=_;rw[n,E2.out.2.2]⟩ (by have h:=m0.o;rw[List.set_set] at h;exact h) e4.o.asc e4.o.tbs x.o (by show _= (stepOf _ c.r.at').asks;rw[n,a6.o]) (by have h:=l9.o;rw[E1.out] at h;rw[n];exact h);exact⟨rfl,W,d',c3,f',a1,e4.o,z1,z2⟩
   .rw[P] at q5;have i8:Hid (∀w',K_ w5 w'->w'.cell? ⟨z,6,none⟩=some (.bool s.bad)/\w'.cell? ⟨z,7,none⟩=some (.string s.give)/\w'.cell? ⟨t.tb,6,none⟩=some (c.tv)):=λw' K=>⟨(K.cell gz).trans (b6.o 6 _ rfl),(K.cell gz).trans (b6.o 7 _ rfl),by rw[<-E1.out];exact ((a7.o.kept K).at a5.o).rng 6 _ rfl⟩
    obtain⟨ta,tc,c1⟩:=ay (a7.o.at a5.o).txt;have m1:=Kz c1;have i9:Hid (c.r.texts.length<=tc/\∀e5,K_ w5 e5->Strs e5 ta c.r.texts):=by
     refine⟨?_,λe5 K=>?_⟩
     .have j0:=(a7.o.at a5.o).txt;rw[c1] at j0;rcases j0.2 with⟨e,h0⟩|⟨g,cp,n3,e,_,_,n4,_⟩
      .omega
      .simp only[MW] at e;omega
     .obtain⟨n5,c9,e9,h9⟩:=bK ((a7.o.kept K).at a5.o).txt;rw[c1] at e9;simp only[MW] at e9;rw[e9.1];exact h9
    clear c1;go_upto_region 6 with fail
    refine bC 12 i8.o λU KD I=>?_
    refine au 0 I ?_;refine au 4 I ?_;refine ae 8 I ?_;refine ae 9 I ?_;refine ae 10 I ?_;refine aG 11 (λK J=>?_);go_simp
    go_at_call 118
    rw[m1.o];refine (j2 U s.give ta tc c.r.texts (i0.o.kw.trans (e0.o.trans KD)) k8 F5 (i9.o.2 _ KD) i9.o.1).mono ?_;rintro e w6 ⟨rfl,k6⟩;have K6:=KD.trans k6;refine af J (λ_=>i8.o _ K6) ?_;clear J K I;refine aG 12 (λK J=>?_);go_simp
    go_at_call 116
    have a8:=M.o.nm;have e6:=mR (a7.o.kept K6) a5.o s.bad (mY s.give c.r.texts) (by rw[a8];exact c6) (by rw[a8];omega) (λb N=>by
     rw[a8] at N;obtain⟨b0,u,X,b1,h3,h4,h5⟩:=c5.o b N;exact⟨b0,u,by rw[MC (Ne.symm X),MC (Ne.symm X)];exact b1,h3,h4,h5⟩) (by rw[a8];exact q.o.wn _)
    rw[E1.out,a8] at e6;refine e6.mono ?_;rintro e wF ⟨rfl,a2⟩;rw[List.set_set] at a2;have d0:=Kz a2;clear a2 e6 a8;refine af J (λh=>Nv rfl h) ?_;clear J K;refine aF ?_;go_wp2_with fail
    refine bodyPost_ret (results_none rfl _ _ _) rfl ?_;have n:=M.o.nx;rw[<-a6.o,P] at n;simp only[if_true] at n;have m2:s.asks=[]:=yl E x.o M.o.lo M.o.hi a6.o P;obtain⟨z1,z2⟩:=q.o.ended E HB.o.tbs (t':=c.ended s.bad (mY s.give c.r.texts)) F.o A.o (by rw[n];rfl) rfl (by rw[n];exact m2) E1.out E2.out.1 (.inl ⟨E2.out.2.1.trans ((q.o.bl t (Mv F.o)).open A.o.1),λ_ _=>.inr ⟨⟨t.cost,t.steps⟩,by show Kk Kq c.r.name=_;rw[M.o.nm];exact x.o,by show (stepOf ⟨t.cost,t.steps⟩ c.r.at').fin=true;rw[<-a6.o];exact P⟩⟩) E2.out.2.2;exact⟨rfl,_,d,dc,_,_,d0.o.more E5,z1,z2⟩
end
theorem qI{l:List Qz}(h:bv l 0):fP l:=by
 have a:¬iD l:=by
  rcases h with⟨_,e⟩|⟨_,_,e⟩|⟨_,_,_,e⟩|⟨_,_,_,_,e⟩|⟨_,_,b,_,_⟩
  .omega
  .omega
  .omega
  .omega
  .exact b
 refine Cy λi c=>?_
 cases d:Op.bytesLess (nameAt l i) (nameAt l (i+1))
 .exact Nv ⟨i,c,d⟩ a
 .rfl
structure zW (Kq:List Qz) (L:List NG) (ts:List Zk):Prop where
 env:∀n,Qq (Qj ts) n=if eH L n=true/\(Kk Kq n).isSome=true then some (Q_.fresh n) else none
 fr:∀t∈ts,t.r=Q_.fresh t.r.name/\t.op=0/\t.bq= (⟨#[]⟩,[])
theorem zW.nil(a:List Qz):zW a [] []:=⟨λn=>by rw[Nu (by simp[eH])];rfl,λt h=>by cases h⟩
variable {Kq : List Qz}
theorem zW.want{L:List NG}{b l:List Zk}{n:NG}(h:zW Kq L b)(D:df (Qj b))(s:df (Qj l))(e:Ii Kq b n l):zW Kq (L++ [n]) l:=by
 have f:∀m,eH (L++ [n]) m=true↔eH L m=true\/m=n:=λm=>by simp[cK]
 rcases e with⟨rfl,e⟩|⟨p,new,rfl,q,t,E,v⟩
 .refine⟨λm=>?_,h.fr⟩;rw[h.env m];by_cases a:eH L m=true/\(Kk Kq m).isSome=true
  .rw[Nt a,Nt ⟨(f m).2 (.inl a.1),a.2⟩]
  .rw[Nu a,Nu];rintro⟨d,i⟩;rcases (f m).1 d with g|g
   .exact a ⟨g,i⟩
   .subst g;rcases e with e|⟨w,y,j⟩
    .rw[e] at i;cases i
    .have:=h.env m;rw[Nu a] at this;exact iQ.1 this w y j
 .have k:∀u,u∈b.take p++new :: b.drop p↔u=new\/u∈b:=λu=>by
   rw[Mo,Na];constructor
   .rintro (h|h|h)
    .exact .inr (List.mem_of_mem_take h)
    .exact .inl h
    .exact .inr (List.mem_of_mem_drop h)
   .rintro (h|h)
    .exact .inr (.inl h)
    .rw[<-Nk p b] at h;rcases Mo.1 h with h|h
     .exact .inl h
     .exact .inr (.inr h)
  refine⟨λm=>?_,λu c=>?_⟩
  .by_cases j:m=n
   .subst j;rw[Nt ⟨(f m).2 (.inr rfl),v⟩];have:=bJ s (r:=new.r) (Nf ((k new).2 (.inl rfl)));rw[q] at this;exact this
   .have z:Qq (Qj (b.take p++new :: b.drop p)) m=Qq (Qj b) m:=by
     cases d:Qq (Qj b) m with
     | some x=>
      obtain⟨A,B⟩:=aY d;obtain⟨u,c,rfl⟩:=MH.1 A;have:=bJ s (r:=u.r) (Nf ((k u).2 (.inr c)));rw[B] at this;exact this
     | none=>
      rw[iQ] at d⊢;intro u c;rcases (k u).1 c with rfl|c
      .rw[q];exact λC=>j C.symm
      .exact d u c
    rw[z,h.env m];by_cases a:eH L m=true/\(Kk Kq m).isSome=true
    .rw[Nt a,Nt ⟨(f m).2 (.inl a.1),a.2⟩]
    .rw[Nu a,Nu];rintro⟨d,i⟩;rcases (f m).1 d with g|g
     .exact a ⟨g,i⟩
     .exact j g
  .rcases (k u).1 c with rfl|c
   .exact⟨by rw[q];rfl,t⟩
   .exact h.fr u c
theorem zW.done{Kj:List NG}{c:List Zk}(h:zW Kq Kj c)(f:bg (Kk Kq))(e:df (Qj c)):BS Kq c (λ_=>[])/\Qq (Qj c)=Qq (bM Kq Kj):=by
 refine⟨⟨⟨e,λr i=>?_⟩,λt a=>?_,λs t a=>?_,λ_=>List.nodup_nil,λs l j=>(by cases j),λt a=>zU.still (congrArg Prod.fst (h.fr t a).2.2) (by rw[(h.fr t a).1];rfl),λt a=>wD.still (congrArg Prod.snd (h.fr t a).2.2) (h.fr t a).1⟩, ?_⟩
 .have b:=bJ e i;rw[h.env] at b
  split at b
  .rename_i d
   have k:Q_.fresh r.name=r:=Ng b;rw[<-k];exact gL f d.2
  .cases b
 .obtain⟨b,d⟩:=h.fr t a;rw[b,mV,d.1]
  rfl
 .obtain⟨b,_⟩:=h.fr t a;rw[b,mV];simp
 .funext n
  rw[h.env n,gP]
theorem BM.begun{b:NI}{a:NH}{d:Nat}{e:NH}{f i:Nat}(j:aD ((b.alloc (.map #[] 0)).alloc (.cells #[.slice a Kq.length d,.func (.func 99) #[] #[],.slice e f i,M0,.func (.func 55) #[] #[],.map (some b.heap.size)] 123)) (b.heap.size+1) 123 6)(c:((b.alloc (.map #[] 0)).alloc (.cells #[.slice a Kq.length d,.func (.func 99) #[] #[],.slice e f i,M0,.func (.func 55) #[] #[],.map (some b.heap.size)] 123)).rangeAt (b.heap.size+1) 0 [.slice a Kq.length d,.func (.func 99) #[] #[],.slice e f i,M0,.func (.func 55) #[] #[],.map (some b.heap.size)]):
  BM (bQ.no b) Kq b ((b.alloc (.map #[] 0)).alloc (.cells #[.slice a Kq.length d,.func (.func 99) #[] #[],.slice e f i,M0,.func (.func 55) #[] #[],.map (some b.heap.size)] 123)) (b.heap.size+1) a d e f i b.heap.size 0 [] none 0 (λ_=>.slice none 0 0) (λ_=>[]):=
 ⟨(ah _ _).alloc _,j,c 0 _ rfl,c 1 _ rfl,c 2 _ rfl,c 3 _ rfl,c 4 _ rfl,c 5 _ rfl,Nat.le_succ _,Nc _ _ _ _,λt h=>(by cases h),λt h=>(by cases h),List.Pairwise.nil,List.nodup_nil,List.Pairwise.nil,λt h=>(by cases h),⟨0,.map [],Me _,(World.ownsMap_made b prog 9 asIs).alloc _,λs _=>rfl⟩,Me _,λs=>Nc _ _ _ _,λs k _ x h=>(by cases h),λs x h=>(by cases h),λt h=>(by cases h),Fen.no (by simp only[MS];omega),λ_ h=>(by cases h)⟩
def Lh(Kq:List Qz)(Kj:List NG)(a:NH)(cap:Nat)(rd:NH)(rc:Nat)(w w':NI)(e:Ending):Prop:=
 K_ w w'/\((¬(bv Kq 0/\dR Kj)/\e= .returned (.tuple #[.pointer none,.bool false]))\/
  (bv Kq 0/\dR Kj/\∃wz bb mb ts d dc,e= .returned (.tuple #[.c bb,.bool true])/\K_ w wz/\BM (bQ.no wz) Kq wz w' bb a cap rd Kj.length rc mb 0 ts d dc (λ_=>.slice none 0 0) (λ_=>[])/\BS Kq ts (λ_=>[])/\Qq (Qj ts)=Qq (bM Kq Kj)))
theorem xD(w:NI)(a:NH)(f:Nat)(c:List Qz)(h:NH)(i:Nat)(Kj:List NG)(X:c.length<=1048576)(Y:∀s∈c,s.Fits)(Z:Kj.length<=maxLen)(a0:Kj.length<=i)(a1:∀s∈Kj,s.size<=maxLen)(N:bT w a c)(O:Strs w h Kj):
  Calls prog 20 #[.agg #[.slice a c.length f],.slice h Kj.length i] w λe w'=>Lh c Kj a f h i w w' e:=by
 have a2:c.length<=maxLen:=F5;go_enter func20,ntmps20
 go_wp2_with fail
 refine (tT JL _ a f c a2 Y (N.kept H6)).mono ?_;rintro e P ⟨⟨Q,rfl,l⟩,q⟩;have r:K_ w P:=K_.trans (ah _ _) q;have z1:=q.size;simp only[MS] at z1;have R:=vw (w:=w) q;have m:=Kz l;clear l q;have a3:w.heap.size<P.heap.size:=E5;by_cases B:Q=0
 .subst B;go_wp2_with fail
  refine (vO _ h i Kj Z a0 a1 (O.kept r)).mono ?_;rintro e w2 ⟨C,t⟩;have q2:=(t.cell (o:=0) a3).trans R;have D:=r.trans t;have z2:=t.size;clear R r t;have b5:w.heap.size<w2.heap.size:=E5;rcases C.cases with⟨rfl,S⟩|⟨rfl,T⟩
  .have v:=Kz S;clear S C;go_wp2_with fail
   refine (xy _ a c.length f).mono ?_;rintro e b ⟨rfl,E⟩;have n:=D.trans E;have z3:=E.size;clear q2 E D;have a4:(Instr.makeMap 117 none).run prog b= .ok (.map (some b.heap.size)) (b.alloc (.map #[] 0)):=rfl;go_wp2
   clear a4;have U:K_ w ((b.alloc (.map #[] 0)).alloc (.cells #[.slice a c.length f,.func (.func 99) #[] #[],.slice h Kj.length i,M0,.func (.func 55) #[] #[],.map (some b.heap.size)] 123)):=(n.alloc _).alloc _;have x:=X_ (b.alloc (.map #[] 0)) #[.slice a c.length f,.func (.func 99) #[] #[],.slice h Kj.length i,M0,.func (.func 55) #[] #[],.map (some b.heap.size)] 123;simp only[MS] at x;have F:=aD.made (b.alloc (.map #[] 0)) #[.slice a c.length f,.func (.func 99) #[] #[],.slice h Kj.length i,M0,.func (.func 55) #[] #[],.map (some b.heap.size)] 123;simp only[MS] at F;have V:BM (bQ.no b) c b ((b.alloc (.map #[] 0)).alloc (.cells #[.slice a c.length f,.func (.func 99) #[] #[],.slice h Kj.length i,M0,.func (.func 55) #[] #[],.map (some b.heap.size)] 123)) (b.heap.size+1) a f h Kj.length i b.heap.size 0 [] none 0 (λ_=>.slice none 0 0) (λ_=>[]):=BM.begun F x;have⟨a5,b6⟩:=aH V U;clear x F V U;have a6:=lH m.o;go_loopw [29] (λG wr=>∃(k:Nat) (y:List Zk) (d:NH) (H:Nat),k<=Kj.length/\G= .a k/\BM (bQ.no b) c b wr (b.heap.size+1) a f h Kj.length i b.heap.size 0 y d H (λ_=>.slice none 0 0) (λ_=>[])/\zW c (Kj.take k) y) (λG _=>Kj.length-(intOf G).toNat)
   case atStart=>exact⟨0,[],none,0,Mg _,rfl,a5.o,zW.nil c⟩
   case round=>
    obtain⟨k,y,d,H,hk,rfl,j,p⟩:=hrel;have b7:=j.len a6;have b8:Kj.length<=10:=v.o.2.1;by_cases I:k<Kj.length
    .obtain⟨a7,o,rfl,hb,l⟩:=O k I;obtain⟨J,K⟩:=aj (Kj.getD k ByteArray.empty);rw[<-K] at l;have b9:wr.cell? ⟨a7,o+k,none⟩=some (.string J):=((n.trans j.kw).cell hb).trans l;have a8:Hid (Kj.take (k+1)=Kj.take k++ [J]):=by show _=_;rw[Ml I,K];simp[List.getD,I]
     have HW:=Kz (uE j J E5 X (qI m.o) (N.kept n));have⟨a9,z⟩:=aH j.asc p;have i0:(k:Int)<(Kj.length:Int):=E5;clear K j p l;go_wp2_with fail
     refine (bf HW).mono ?_;rintro e w5 ⟨rfl,b0,d5,b1,L,W⟩;have b2:=Kz L;have b3:=Kz (z.o.want a9.o L.asc W);clear L W;go_wp2
     go_roundw
     case rel=>exact⟨k+1,b0,d5,b1,E5,F3,b2.o,by rw[a8.out];exact b3.o⟩
     case measure=>simp[intOf];omega
    .have b4:k=Kj.length:=E5;subst b4;rw[MN] at p;have⟨A,z⟩:=aH j p;clear j p;go_wp2
     go_ret2
     exact⟨n.trans A.o.kw,.inr ⟨m.o,v.o,b,_,_,y,d,H,rfl,n,A.o,(z.o.done (cO m.o) A.o.asc).1,(z.o.done (cO m.o) A.o.asc).2⟩⟩
  .have v:=Kz T;clear T C;go_wp2
   go_ret2
   exact⟨D,.inl ⟨λM=>v.o M.2,rfl⟩⟩
 .have x:(Q == 0)=false:=by simpa using B
  go_wp2
  go_ret2
  exact⟨r,.inl ⟨λM=>B (m.o.unique M.1),rfl⟩⟩
theorem jk(w:NI)(a b c d f h i:NJ)(s:NG)(j:a= .string s):
  Calls prog 74 #[.agg #[a,b,c,d,f,h,i]] w λe w'=>e= .returned (.string s)/\K_ w w':=by
 subst j;go_enter func74,ntmps74
 go_wp2
 go_ret
 exact⟨rfl,ah _ _⟩
def IK(l:List Q_)(k:Nat):Prop:=∀j,j+1<k->aR (l.getD j Q_.zero).name (l.getD (j+1) Q_.zero).name
variable {l : List Q_}
theorem BP(h:IK l l.length):df l:=by
 have c:∀i j,i<j->j<l.length->aR (l.getD i Q_.zero).name (l.getD j Q_.zero).name:=by
  intro i j b
  induction j with
  | zero=>intro _;omega
  | succ j ih=>
   intro a;by_cases d:i=j
   .subst d;exact h i a
   .exact fU (ih E5 E5) (h j a)
 unfold df;rw[Mr];intro i j e a b;have:=c i j b a;simpa[List.getD,e,a] using this
theorem Ci(h:df l):IK l l.length:=λj b=>by
 have:=Mr.1 h j (j+1) E5 b E5;simpa[List.getD,b,(E5:j<l.length)] using this
theorem Cv(w:NI)(a:NH)(k:Nat)(l:List Q_)(hl:l.length<=1048576)(N:cB w a l):
  Calls prog 75 #[.agg #[.slice a l.length k,.func (.func 74) #[] #[]]] w fun e w'=>Says e (df l)/\K_ w w':=by
 have C:K_ w (w.alloc (.cells #[.slice a l.length k,.func (.func 74) #[] #[]] 141)):=ah _ _;go_enter func75,ntmps75
 go_wp2
 go_loopw [3] (fun D wr=>∃n:Nat,1<=n/\n<=l.length+1/\D= .int .i64 n/\K_ (w.alloc (.cells #[.slice a l.length k,.func (.func 74) #[] #[]] 141)) wr/\IK l n) (fun D _=>l.length+2-(intOf D).toNat)
 case atStart=>exact⟨1,by omega,by omega,rfl,K_.refl _,fun q E=>Nv E (by omega)⟩
 case round=>
  obtain⟨n,a2,a3,rfl,m,O⟩:=hrel;have P:=Kz O;clear O;have X:=m.size;simp only[MS] at X;have Q:w.heap.size<wr.heap.size:=by omega
  obtain⟨Y,Z⟩:=vQ m;by_cases a0:n<l.length
  ·have R:K_ w wr:=C.trans m;obtain⟨b,o,v,z,rfl,h,i,_,_⟩:=N.kept R (n-1) (by omega);obtain⟨b',o',A,B,S,a4,j,_,_⟩:=N.kept R n a0;simp only[MV,ND,and_true] at S;obtain⟨rfl,rfl⟩:=S;obtain⟨x,F⟩:=aj ((l.getD (n-1) Q_.zero));obtain⟨y,G⟩:=aj ((l.getD n Q_.zero));rw[<-F] at i;rw[<-G] at j;have T:Hid (l.getD (n-1) Q_.zero=x):=F.symm;have U:Hid (l.getD (n-1+1) Q_.zero=y):=by rw[G,show n-1+1=n by omega];exact rfl
   clear F G;have c0:wr.cell? ⟨b,o+ (n-1)*7,none⟩=some (.string x.name):=i 0 _ rfl;have c1:wr.cell? ⟨b,o+ (n-1)*7+1,none⟩=some (.bool x.over):=i 1 _ rfl;have c2:wr.cell? ⟨b,o+ (n-1)*7+2,none⟩=some (.bool x.fail):=i 2 _ rfl;have c3:wr.cell? ⟨b,o+ (n-1)*7+3,none⟩=some (.string x.text):=i 3 _ rfl;have c4:wr.cell? ⟨b,o+ (n-1)*7+4,none⟩=some (.int .i64 x.at'):=i 4 _ rfl;have c5:wr.cell? ⟨b,o+ (n-1)*7+5,none⟩=some (.int .i64 x.Zq):=i 5 _ rfl;have c6:wr.cell? ⟨b,o+ (n-1)*7+6,none⟩=some (.slice v x.texts.length z):=i 6 _ rfl;have d0:wr.cell? ⟨b,o+n*7,none⟩=some (.string y.name):=j 0 _ rfl;have d1:wr.cell? ⟨b,o+n*7+1,none⟩=some (.bool y.over):=j 1 _ rfl;have d2:wr.cell? ⟨b,o+n*7+2,none⟩=some (.bool y.fail):=j 2 _ rfl;have d3:wr.cell? ⟨b,o+n*7+3,none⟩=some (.string y.text):=j 3 _ rfl;have d4:wr.cell? ⟨b,o+n*7+4,none⟩=some (.int .i64 y.at'):=j 4 _ rfl;have d5:wr.cell? ⟨b,o+n*7+5,none⟩=some (.int .i64 y.Zq):=j 5 _ rfl;have d6:wr.cell? ⟨b,o+n*7+6,none⟩=some (.slice A y.texts.length B):=j 6 _ rfl;clear i j;have i0:(0:Int)<=(n:Int)-1:=by omega
   have i1:(n:Int)-1<(l.length:Int):=by omega
   have i2:(n:Int)<(l.length:Int):=by omega
   have i5:(1:Int)<=(n:Int):=by omega
   have i6:(n:Int)<=(l.length:Int):=by omega
   have i7:n<=l.length:=by omega
   have i3:((n:Int)-1).toNat=n-1:=by omega
   have i4:IntKind.i64.wrap ((n:Int)-1)= (n:Int)-1:=fV (by omega) (by omega);have V:∀w',K_ wr w'->(fun w'=>w'.cell? ⟨b,o+ (n-1)*7,none⟩=some (.string x.name)/\w'.cell? ⟨b,o+ (n-1)*7+1,none⟩=some (.bool x.over)/\w'.cell? ⟨b,o+ (n-1)*7+2,none⟩=some (.bool x.fail)/\w'.cell? ⟨b,o+ (n-1)*7+3,none⟩=some (.string x.text)/\w'.cell? ⟨b,o+ (n-1)*7+4,none⟩=some (.int .i64 x.at')/\w'.cell? ⟨b,o+ (n-1)*7+5,none⟩=some (.int .i64 x.Zq)/\w'.cell? ⟨b,o+ (n-1)*7+6,none⟩=some (.slice v x.texts.length z)/\w'.cell? ⟨b,o+n*7,none⟩=some (.string y.name)/\w'.cell? ⟨b,o+n*7+1,none⟩=some (.bool y.over)/\w'.cell? ⟨b,o+n*7+2,none⟩=some (.bool y.fail)/\w'.cell? ⟨b,o+n*7+3,none⟩=some (.string y.text)/\w'.cell? ⟨b,o+n*7+4,none⟩=some (.int .i64 y.at')/\w'.cell? ⟨b,o+n*7+5,none⟩=some (.int .i64 y.Zq)/\w'.cell? ⟨b,o+n*7+6,none⟩=some (.slice A y.texts.length B)/\w'.cell? ⟨w.heap.size,0,none⟩=some (.slice (some ⟨b,o,none⟩) l.length k)/\w'.cell? ⟨w.heap.size,1,none⟩=some (.func (.func 74) #[] #[])) w':=fun w' c=>⟨(K_.cell c h).trans c0,(K_.cell c h).trans c1,(K_.cell c h).trans c2,(K_.cell c h).trans c3,(K_.cell c h).trans c4,(K_.cell c h).trans c5,(K_.cell c h).trans c6,(K_.cell c h).trans d0,(K_.cell c h).trans d1,(K_.cell c h).trans d2,(K_.cell c h).trans d3,(K_.cell c h).trans d4,(K_.cell c h).trans d5,(K_.cell c h).trans d6,(K_.cell c Q).trans Y,(K_.cell c Q).trans Z⟩
   have p:=Kz V;clear V;cases W:Op.bytesLess x.name.toList y.name.toList
   ·have a1:True:=trivial;go_upto_region 4 with fail
    refine Qk.region (by kernel_rfl) (fun w'=>w'.cell? ⟨b,o+ (n-1)*7,none⟩=some (.string x.name)/\w'.cell? ⟨b,o+ (n-1)*7+1,none⟩=some (.bool x.over)/\w'.cell? ⟨b,o+ (n-1)*7+2,none⟩=some (.bool x.fail)/\w'.cell? ⟨b,o+ (n-1)*7+3,none⟩=some (.string x.text)/\w'.cell? ⟨b,o+ (n-1)*7+4,none⟩=some (.int .i64 x.at')/\w'.cell? ⟨b,o+ (n-1)*7+5,none⟩=some (.int .i64 x.Zq)/\w'.cell? ⟨b,o+ (n-1)*7+6,none⟩=some (.slice v x.texts.length z)/\w'.cell? ⟨b,o+n*7,none⟩=some (.string y.name)/\w'.cell? ⟨b,o+n*7+1,none⟩=some (.bool y.over)/\w'.cell? ⟨b,o+n*7+2,none⟩=some (.bool y.fail)/\w'.cell? ⟨b,o+n*7+3,none⟩=some (.string y.text)/\w'.cell? ⟨b,o+n*7+4,none⟩=some (.int .i64 y.at')/\w'.cell? ⟨b,o+n*7+5,none⟩=some (.int .i64 y.Zq)/\w'.cell? ⟨b,o+n*7+6,none⟩=some (.slice A y.texts.length B)/\w'.cell? ⟨w.heap.size,0,none⟩=some (.slice (some ⟨b,o,none⟩) l.length k)/\w'.cell? ⟨w.heap.size,1,none⟩=some (.func (.func 74) #[] #[])) 17 (p.o _ (aV wr)) (fun d=>?_);have r:K_ wr wr.drew:=aV wr;generalize H:wr.drew=wd at d r⊢;clear H;refine au 0 d ?_;refine au 4 d ?_;refine au 9 d ?_;refine ae 13 d ?_;refine ae 14 d ?_;refine ae 15 d ?_;refine aG 8 (fun K f=>?_);go_simp
    go_at_call 74
    refine (jk _ _ _ _ _ _ _ _ _ rfl).mono ?_;rintro e w1 ⟨rfl,I⟩;have s:=r.trans I;refine af f (fun _=>p.o _ s) ?_;clear f K d;refine aG 16 (fun K f=>?_);go_simp
    go_at_call 74
    refine (jk _ _ _ _ _ _ _ _ _ rfl).mono ?_;rintro e w2 ⟨rfl,J⟩;have c:=s.trans J;refine af f (fun _=>p.o _ c) ?_;clear f K;refine ai 17 (fun K f=>?_);go_simp
    refine af f (fun t=>absurd rfl t) ?_;clear f K;refine aF ?_;try dsimp only
    have L:=m.trans c;go_wp2
    go_ret
    exact⟨Says.no fun t=>(by have M:=Ci t (n-1) (by omega);unfold aR at M;rw[T.o,U.o,W] at M;cases M),C.trans L⟩
   ·have a1:True:=trivial;go_upto_region 4 with fail
    refine Qk.region (by kernel_rfl) (fun w'=>w'.cell? ⟨b,o+ (n-1)*7,none⟩=some (.string x.name)/\w'.cell? ⟨b,o+ (n-1)*7+1,none⟩=some (.bool x.over)/\w'.cell? ⟨b,o+ (n-1)*7+2,none⟩=some (.bool x.fail)/\w'.cell? ⟨b,o+ (n-1)*7+3,none⟩=some (.string x.text)/\w'.cell? ⟨b,o+ (n-1)*7+4,none⟩=some (.int .i64 x.at')/\w'.cell? ⟨b,o+ (n-1)*7+5,none⟩=some (.int .i64 x.Zq)/\w'.cell? ⟨b,o+ (n-1)*7+6,none⟩=some (.slice v x.texts.length z)/\w'.cell? ⟨b,o+n*7,none⟩=some (.string y.name)/\w'.cell? ⟨b,o+n*7+1,none⟩=some (.bool y.over)/\w'.cell? ⟨b,o+n*7+2,none⟩=some (.bool y.fail)/\w'.cell? ⟨b,o+n*7+3,none⟩=some (.string y.text)/\w'.cell? ⟨b,o+n*7+4,none⟩=some (.int .i64 y.at')/\w'.cell? ⟨b,o+n*7+5,none⟩=some (.int .i64 y.Zq)/\w'.cell? ⟨b,o+n*7+6,none⟩=some (.slice A y.texts.length B)/\w'.cell? ⟨w.heap.size,0,none⟩=some (.slice (some ⟨b,o,none⟩) l.length k)/\w'.cell? ⟨w.heap.size,1,none⟩=some (.func (.func 74) #[] #[])) 17 (p.o _ (aV wr)) (fun d=>?_);have r:K_ wr wr.drew:=aV wr;generalize H:wr.drew=wd at d r⊢;clear H;refine au 0 d ?_;refine au 4 d ?_;refine au 9 d ?_;refine ae 13 d ?_;refine ae 14 d ?_;refine ae 15 d ?_;refine aG 8 (fun K f=>?_);go_simp
    go_at_call 74
    refine (jk _ _ _ _ _ _ _ _ _ rfl).mono ?_;rintro e w1 ⟨rfl,I⟩;have s:=r.trans I;refine af f (fun _=>p.o _ s) ?_;clear f K d;refine aG 16 (fun K f=>?_);go_simp
    go_at_call 74
    refine (jk _ _ _ _ _ _ _ _ _ rfl).mono ?_;rintro e w2 ⟨rfl,J⟩;have c:=s.trans J;refine af f (fun _=>p.o _ c) ?_;clear f K;refine ai 17 (fun K f=>?_);go_simp
    refine af f (fun t=>absurd rfl t) ?_;clear f K;refine aF ?_;try dsimp only
    have L:=m.trans c;go_wp2
    go_roundw
    case rel=>
     refine⟨n+1,by omega,by omega,by go_num,L,fun q E=>?_⟩;by_cases e:q=n-1
     ·subst e;unfold aR;rw[T.o,U.o,W]
     ·exact P.o q (by omega)
    case measure=>simp[intOf];omega
  ·go_wp2
   go_ret
   exact⟨Says.yes (BP fun q E=>P.o q (by omega)),C.trans m⟩
def Ec(r:List Q_)(l:List Qz):Prop:=r.length=l.length/\∀i,i<l.length->nameAt l i= (r.getD i Q_.zero).name.toList
theorem rW(w:NI)(g:Nat)(x:Q_)(xa:NH)(xc:Nat)(a:NG)(d:g<w.heap.size)(f:w.cell? ⟨g,1,none⟩=some (.func (.func 74) #[] #[])):
  Calls prog 174 #[.agg #[.string x.name,.bool x.over,.bool x.fail,.string x.text,.a x.at',.a x.Zq,.slice xa x.texts.length xc],.string a,.c g] w λe w'=>e= .returned (.a (jZ x.name.toList a.toList))/\K_ w w':=by
 have b:K_ w (w.alloc (.cells #[.string x.name,.bool x.over,.bool x.fail,.string x.text,.a x.at',.a x.Zq,.slice xa x.texts.length xc] 40)):=ah _ _;have h:¬g=w.heap.size:=E5;go_enter func174,ntmps174
 go_wp2_with fail
 refine (jk _ _ _ _ _ _ _ _ _ rfl).mono ?_;rintro e i ⟨rfl,c⟩;go_wp2_with fail
 refine (oV _ x.name a).mono ?_;rintro e j ⟨rfl,rfl⟩;go_wp2
 go_ret
 exact⟨rfl,b.trans c⟩
theorem Bp(w:NI)(g:Nat)(a:NH)(a2:Nat)(l:List Qz)(d:NG)(hl:l.length<=1048576)(S:fP l)(A:g<w.heap.size)(T:w.cell? ⟨g,1,none⟩=some (.func (.func 74) #[] #[]))(r:List Q_)(B:Ec r l)(U:cB w a r):
  Calls prog 173 #[.slice a l.length a2,.string d,.func (.func 174) #[] #[.c g]] w
   λe w'=>Found l d.toList e/\K_ w w':=by
 have V:=Kz S;clear S;go_enter func173,ntmps173
 go_wp2
 go_loopw [9,10] (λx F wr=>∃i j:Nat,x= .a i/\F= .a j/\i<=j/\j<=l.length/\(∀t,t<i->Op.bytesLess (nameAt l t) d.toList=true)/\(∀t,j<=t->t<l.length->Op.bytesLess (nameAt l t) d.toList=false)/\K_ w wr) (λx F _=>(intOf F).toNat-(intOf x).toNat)
 case atStart=>exact⟨0,l.length,rfl,rfl,Mg _,Me _,λt W=>aO W,λt h1 X=>E5,K_.refl _⟩
 case round=>
  obtain⟨i,j,rfl,rfl,a7,Y,n,p,f⟩:=hrel;have q:=Kz (And.intro n p);clear n p;by_cases a8:(i:Int)<j
  .obtain⟨h,Z⟩:∃h:Nat,h= (i+j) / 2:=⟨_,rfl⟩;have G:h<l.length:=E5;have a3:i<=h:=E5;have a9:h<j:=E5;obtain⟨b,o,s,v,rfl,hb,c,_,_⟩:=U.kept f h (by rw[B.1];exact G);obtain⟨x,k⟩:=aj (r.getD h Q_.zero);rw[<-k] at c;have H:Hid (nameAt l h=x.name.toList):=by rw[k];exact B.2 h G
   have I:wr.cell? ⟨b,o+h*7,none⟩=some (.string x.name):=c 0 _ rfl;have J:wr.cell? ⟨b,o+h*7+1,none⟩=some (.bool x.over):=c 1 _ rfl;have K:wr.cell? ⟨b,o+h*7+2,none⟩=some (.bool x.fail):=c 2 _ rfl;have L:wr.cell? ⟨b,o+h*7+3,none⟩=some (.string x.text):=c 3 _ rfl;have M:wr.cell? ⟨b,o+h*7+4,none⟩=some (.a x.at'):=c 4 _ rfl;have N:wr.cell? ⟨b,o+h*7+5,none⟩=some (.a x.Zq):=c 5 _ rfl;have O:wr.cell? ⟨b,o+h*7+6,none⟩=some (.slice s x.texts.length v):=c 6 _ rfl;clear k c;have b0:((i:Int)+ (j:Int)) / 2= (h:Int):=E5;have HH:=Kz Z;clear Z;have P:g<wr.heap.size:=Mf A f.size;have Q:wr.cell? ⟨g,1,none⟩=some (.func (.func 74) #[] #[]):=by rw[f.cell A];exact T
   go_wp2_with fail
   refine (rW _ g x s v d P Q).mono ?_;rintro e w1 ⟨rfl,y⟩;have z:nameAt l h=x.name.toList:=H.o;have C:Hid (jZ x.name.toList d.toList<0↔Op.bytesLess (nameAt l h) d.toList=true):=by rw[z];exact wu
   clear I J K L M N O z;generalize jZ x.name.toList d.toList=a0 at *;have D:=f.trans y;clear f y;by_cases a4:a0<0
   .go_wp2
    go_roundw
    case rel=>
     obtain⟨n,p⟩:=q.o;refine⟨h+1,j,F3,rfl,E5,Y,λt W=>?_,p,D⟩;have m:=C.o.1 a4;by_cases e:t=h
     .subst e;exact m
     .exact eY _ _ _ (V.o t h E5 G) m
    case measure=>simp[intOf];omega
   .go_wp2
    go_roundw
    case rel=>
     obtain⟨n,p⟩:=q.o;refine⟨i,h,rfl,F3,a3,E5,n,λt h1 X=>?_,D⟩;have m:Op.bytesLess (nameAt l h) d.toList=false:=by
      cases R:Op.bytesLess (nameAt l h) d.toList
      .rfl
      .have:=C.o.2 R;omega
     by_cases e:t=h
     .subst e;exact m
     .cases R:Op.bytesLess (nameAt l t) d.toList
      .rfl
      .rw[eY _ _ _ (V.o h t E5 X) R] at m;cases m
    case measure=>simp[intOf];omega
  .have a5:i=j:=E5;subst a5;have a1:Hid (Place l d.toList i):=⟨Y,q.o.1,q.o.2⟩;clear q;by_cases E:i<l.length
   .obtain⟨b,o,s,v,rfl,hb,c,_,_⟩:=U.kept f i (by rw[B.1];exact E);obtain⟨x,k⟩:=aj (r.getD i Q_.zero);rw[<-k] at c;have H:Hid (nameAt l i=x.name.toList):=by rw[k];exact B.2 i E
    have I:wr.cell? ⟨b,o+i*7,none⟩=some (.string x.name):=c 0 _ rfl;have J:wr.cell? ⟨b,o+i*7+1,none⟩=some (.bool x.over):=c 1 _ rfl;have K:wr.cell? ⟨b,o+i*7+2,none⟩=some (.bool x.fail):=c 2 _ rfl;have L:wr.cell? ⟨b,o+i*7+3,none⟩=some (.string x.text):=c 3 _ rfl;have M:wr.cell? ⟨b,o+i*7+4,none⟩=some (.a x.at'):=c 4 _ rfl;have N:wr.cell? ⟨b,o+i*7+5,none⟩=some (.a x.Zq):=c 5 _ rfl;have O:wr.cell? ⟨b,o+i*7+6,none⟩=some (.slice s x.texts.length v):=c 6 _ rfl;clear k c;have P:g<wr.heap.size:=Mf A f.size;have Q:wr.cell? ⟨g,1,none⟩=some (.func (.func 74) #[] #[]):=by rw[f.cell A];exact T
    have a6:(i:Int)<l.length:=E5;go_wp2_with fail
    refine (rW _ g x s v d P Q).mono ?_;rintro e w1 ⟨rfl,y⟩;have z:nameAt l i=x.name.toList:=H.o;have C:Hid (jZ x.name.toList d.toList=0↔nameAt l i=d.toList):=by rw[z];exact tQ
    clear I J K L M N O z;generalize jZ x.name.toList d.toList=a0 at *;have D:=f.trans y;clear f y;go_wp2
    go_ret2
    refine⟨Found.mk i _ rfl a1.o ?_,D⟩;rw[<-C.o];simp[E]
   .have a6:¬(i:Int)<l.length:=E5;go_wp2
    go_ret2
    exact⟨Found.mk i false rfl a1.o (by simp;intro h;exact Nv h E),f⟩
theorem Gh(w:NI)(a:NH)(b:Nat)(l:List Qz)(c:NG)(i:l.length<=1048576)(j:fP l)(r:List Q_)(k:Ec r l)(m:cB w a r):
  Calls prog 126 #[.agg #[.slice a l.length b,.func (.func 74) #[] #[]],.string c] w
   λe w'=>Found l c.toList e/\K_ w w':=by
 have d:K_ w (w.alloc (.cells #[.slice a l.length b,.func (.func 74) #[] #[]] 141)):=ah _ _;go_enter func126,ntmps126
 go_wp2_with fail
 refine (Bp _ w.heap.size a b l c i j E9 E9 r k (m.kept d)).mono ?_;rintro e x ⟨n,p⟩;obtain⟨q,s,rfl,f,h⟩:=n;have⟨t,v⟩:=aH f h;clear f h;go_wp2
 go_ret2
 exact⟨Found.mk q s rfl t.o v.o,d.trans p⟩
def jF(l:List Q_):List Qz:=l.map λx=>⟨x.name,0,[]⟩
theorem gX(l:List Q_):Ec l (jF l):=by
 refine⟨by simp[jF],λi b=>?_⟩;have c:i<l.length:=by simpa[jF] using b
 simp[nameAt,jF,List.getD,c]
theorem rQ(h:df l):fP (jF l):=by
 intro i j f c;have d:j<l.length:=by simpa[jF] using c
 rw[(gX l).2 i E5,(gX l).2 j c];have:=Mr.1 h i j E5 d f;simpa[List.getD,d,(E5:i<l.length),aR] using this
def Kn(l:List Q_)(n:NG)(e:Ending):Prop:=
 ∃(p:Nat) (f:Bool),e= .returned (.tuple #[.a p,.bool f])/\p<=l.length/\(if f then p<l.length/\Qq l n=some (l.getD p Q_.zero) else Qq l n=none)
theorem Bv{p:Nat}(h:p<l.length):l.getD p Q_.zero∈l:=by
 rw[List.getD_eq_getElem?_getD,Mj h];exact Mq h
theorem FI(j:df l){n:NG}{e:Ending}(h:Found (jF l) n.toList e):Kn l n e:=by
 obtain⟨p,m,rfl,⟨q,v,s⟩,c⟩:=h;have w:(jF l).length=l.length:=(gX l).1.symm;rw[w] at q s c;have t:∀i,i<l.length->nameAt (jF l) i= (l.getD i Q_.zero).name.toList:=λi D=>(gX l).2 i E5
 refine⟨p,m,rfl,q, ?_⟩;cases m with
 | true=>
  obtain⟨a,b⟩:=c.1 rfl;rw[t p a] at b;refine⟨a, ?_⟩;rw[<-toList_inj.1 b];exact bJ j (Bv a)
 | false=>
  cases x:Qq l n with
  | none=>rfl
  | some r=>
   exfalso
   obtain⟨y,z⟩:=aY x;obtain⟨k,d,A⟩:=Ms y;have B:(l.getD k Q_.zero)=r:=by simp[List.getD,d,A]
   have f:nameAt (jF l) k=n.toList:=by rw[t k d,B,z]
   have C:p<=k:=by
    rcases Nat.lt_or_ge k p with h|h
    .have:=v k h;rw[f,dO] at this;cases this
    .exact h
   rcases Nat.lt_or_eq_of_le C with h|h
   .have a:=s p (Me _) E5;have b:=rQ j p k h E5;rw[f,a] at b;cases b
   .subst h;have:=c.2 ⟨d,f⟩;cases this
theorem FE(w:NI)(a:NH)(b:Nat)(l:List Q_)(n:NG)(j:l.length<=1048576)(c:df l)(f:cB w a l):
  Calls prog 126 #[.agg #[.slice a l.length b,.func (.func 74) #[] #[]],.string n] w
   λe w'=>Kn l n e/\K_ w w':=by
 have i:(jF l).length=l.length:=(gX l).1.symm;have h:=Gh w a b (jF l) n E5 (rQ c) l (gX l) f;rw[i] at h;exact h.mono λe w' d=>⟨FI c d.1,d.2⟩
theorem Bi{P Q:Prop}[Decidable P](h:P↔Q):Says (.returned (.bool (decide P))) Q:=by
 by_cases a:P
 .rw[decide_eq_true a];exact Says.yes (h.1 a)
 .rw[decide_eq_false a];exact Says.no λc=>a (h.2 c)
theorem Eo(w:NI)(tb:Nat)(r x:Q_)(xa:NH)(xc:Nat)(c:tb<w.heap.size)(d:w.cell? ⟨tb,5,none⟩=some (.a r.Zq)):
  Calls prog 127 #[.c tb,.agg #[.string x.name,.bool x.over,.bool x.fail,.string x.text,.a x.at',.a x.Zq,.slice xa x.texts.length xc]] w
   λe w'=>Says e (dI r x)/\K_ w w':=by
 have a:K_ w (w.alloc (.cells #[.string x.name,.bool x.over,.bool x.fail,.string x.text,.a x.at',.a x.Zq,.slice xa x.texts.length xc] 40)):=ah _ _;have f:¬tb=w.heap.size:=E5;unfold dI;cases b:x.over
 .rw[b] at a;go_enter func127,ntmps127
  go_wp2
  go_region
  all_goals
   go_wp2
   go_ret
   exact⟨Bi E9,a.drew⟩
 .rw[b] at a;go_enter func127,ntmps127
  go_wp2
  go_region
  all_goals
   go_wp2
   go_ret
   exact⟨Says.yes (Or.inl trivial),a.drew⟩
section
variable {B : Nat} {Kf Kc : Nat -> Prop} {W0 : NI} {Kq : List Qz} {wz W W' : NI} {bb : Nat} {a : NH} {cap : Nat} {rd : NH} {rn rc : Nat} {mb mx : Nat} {ts0 ts : List Zk} {d0 d : NH} {dc : Nat} {f : NG -> NJ} {ws : NG -> List Nat}
theorem InB.fu(h:InB B Kf Kc (Jc ts0) W0 Kq wz W bb a cap rd rn rc mb mx ts d dc f ws){i:Nat}(hi:i<ts0.length):∃(j:Nat) (t:Zk),ts[j]? =some t/\t.tb=iX ts0 i/\t.r.name= (DN ts0).getD i ByteArray.empty:=by
 obtain⟨t,b,c,e⟩:=h.bm.oth.has (ts0[i].tb,ts0[i].r.name) (MH.2 ⟨ts0[i],Mq hi,rfl⟩);obtain⟨j,k⟩:=List.getElem?_of_mem b;exact⟨j,t,k,by rw[c];simp[iX,List.getD,hi],by rw[e];simp[DN,List.getD,hi]⟩
theorem InB.row(h:InB B Kf Kc (Jc ts0) W0 Kq wz W bb a cap rd rn rc mb mx ts d dc f ws){base j:Nat}(b:W0.ownsRow base 70 1 (.slice d0 ts0.length j) ts0.length (ts0.map Zk.ptr))(k:∀g,d0=some ⟨g,0,none⟩->Kf g){i:Nat}(hi:i<ts0.length):∃g,d0=some ⟨g,0,none⟩/\W.cell? ⟨g,i,none⟩=some (.c (iX ts0 i)):=by
 rcases b.2 with⟨e,_⟩|⟨g,n,p,e,_⟩
 .exfalso
  simp only[MW] at e;omega
 .simp only[MW] at e;obtain⟨rfl,_,rfl⟩:=e;refine⟨g,rfl, ?_⟩;have c:=b.cells (g:=g) rfl i (ts0[i]).ptr (by simp[hi]);have l:W.cell? ⟨g,i,none⟩=W0.cell? ⟨g,i,none⟩:=Mt (w:=W0) (h.same g (k g rfl));rw[l];have m:((⟨g,0,none⟩:Addr).add i)= ⟨g,i,none⟩:=by simp[Addr.add];omega
  rw[m] at c;rw[c];simp[Zk.ptr,iX,List.getD,hi]
theorem InB.sees(h:InB B Kf Kc (Jc ts0) W0 Kq wz W bb a cap rd rn rc mb mx ts d dc f ws)(s:BS Kq ts ws){base v:Nat}(w:W0.ownsRow base 70 1 (.slice d0 ts0.length v) ts0.length (ts0.map Zk.ptr))(x:∀g,d0=some ⟨g,0,none⟩->Kf g){i:Nat}(hi:i<ts0.length):
  (CE d0 (iX ts0) i W/\bB (Kk Kq) (Qq (Qj ts)) ((DN ts0).getD i ByteArray.empty))\/(EN d0 (iX ts0) i W/\¬bB (Kk Kq) (Qq (Qj ts)) ((DN ts0).getD i ByteArray.empty)):=by
 obtain⟨g,e,n⟩:=h.row w x hi;obtain⟨G,t,y,z,A⟩:=h.fu hi;have k:t∈ts:=Mv y;have p:=h.bm.fu t k;have b:W.cell? ⟨t.tb,1,none⟩=some (.bool t.r.over):=p.rng 1 _ rfl;have c:W.cell? ⟨t.tb,9,none⟩=some (.a (t.op:Int)):=p.rng 9 _ rfl;have l:Qq (Qj ts) t.r.name=some t.r:=bJ h.bm.asc (Nf k);rw[z] at b c;rw[A] at l;have q:=s.can k;by_cases j:aT (Kk Kq) (Qq (Qj ts)) t.r
 .obtain⟨C,D⟩:=q.1 j;rw[C] at b;rw[D] at c;exact .inl ⟨⟨g,e,n,b,c⟩,⟨t.r,l,j⟩⟩
 .refine .inr ⟨⟨g,e,n, ?_⟩,λ⟨H,r,E⟩=>?_⟩
  .cases m:t.r.over with
   | true=>left;rw[b,m]
   | false=>
    right
    refine⟨by rw[b,m],t.op,λF=>j (q.2 ⟨m,F⟩),c⟩
  .rw[l] at r;cases r;exact j E
def ApI(B:Nat)(Kf Kc:Nat->Prop)(W0:NI)(Kq:List Qz)(wz:NI)(bb:Nat)(a:NH)(cap:Nat)(rd:NH)(rn rc:Nat)(mb:Nat)(ts0:List Zk)(Gl σ0:Env)(c:Nat)(i:Nat)(W:NI):Prop:=
 ∃(mx:Nat) (ts:List Zk) (d:NH) (dc:Nat) (f:NG->NJ) (ws:NG->List Nat) (b:Bool),
  InB B Kf Kc (Jc ts0) W0 Kq wz W bb a cap rd rn rc mb mx ts d dc f ws/\BS Kq ts ws/\nU Kq Gl σ0 (Qq (Qj ts0)) (DN ts0) (Qq (Qj ts)) i b/\mx+6*tK Kq ts<=9000/\W.cell? ⟨c,0,none⟩=some (.bool b)/\W.frozen? ⟨c,0,none⟩=false
theorem ApI.calm{x y:Env}{c i:Nat}(w:Kc c):Calm B (ApI B Kf Kc W0 Kq wz bb a cap rd rn rc mb ts0 x y c i):=by
 constructor
 .rintro W o D ⟨e,f,h,j,k,l,b,d,n,p,q,r,s⟩;have t:c<W.heap.size:=d.bm.oth.lt c (.inr w);exact⟨e,f,h,j,k,l,b,d.kept ((K_.refl W).alloc o),n,p,q,(((K_.refl W).alloc o).cell t).trans r,(((K_.refl W).alloc o).rules.2 c 0 t).trans s⟩
 .rintro W E o v z A C ⟨e,f,h,j,k,l,b,d,n,p,q,r,s⟩;have t:=d.lt c (.inr w);exact⟨e,f,h,j,k,l,b,d.calm v z A C,n,p,q,(gG v E5).trans r,(nE v E5).trans s⟩
end
