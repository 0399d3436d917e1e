import Derived.Test.YtppbfddlkfglgaaGreatDoorKBApp
import Derived.Test.YtppbfddlkfglgaaGreatDoorKXWantZ
import Derived.Test.YtppbfddlkfglgaaGreatDoorKShelfS
import Derived.Sort.OwnSorted
set_option maxRecDepth 100000
set_option maxHeartbeats 25600000
namespace Go.Proofs.YtppbfddlkfglgaaGreatDoor
open Go.RowKit Go.Proofs.Tryz
variable {tb:Nat}
section
variable {G:dm}{Kq:List Qz}{wz w w':QX}{bb:Nat}{a:QW}{cap:Nat}{rd:QW}{rn rc:Nat}{mb mx:Nat}{ts:List Zk}{d:QW}{dc:Nat}{f:QV -> QY}{ws:QV -> List Nat}
theorem BM.sJ(h:BM G Kq wz w bb a cap rd rn rc mb mx ts d dc f ws){s:QV}(i:s.size<=maxLen){w1:QX}(k:w.grownBy w1 (f s).ownBlock):(Instr.lookup 100 (.map (some mb)) (.string s) false).run prog w1=.ok (f s) w1:=by
 obtain⟨N,D,_,j,l⟩:=h.map;have m:w1.ownsMap prog 9 asIs mb N D:=iW (S:=λb=>(f s).ownBlock=some b) j (But.aI k λb e=>e) λe=>iP j (Y_ (h.jo s) e) rfl;obtain⟨v,q,n,c⟩:=m.lookup Tryz.keyed underlying100 (Tryz.NW w1) (zd:=.held J6) (zp:=[]) rfl (WideMaps.keyOf_string_mk underlying9 i);have e:=l s i;unfold asIs at c;simp only[Ql,Prod.mk.injEq] at c;have p:(DataW.held v:DataW QY)=.held (f s):=c.1.trans e;cases p;exact n
theorem BM.wait(h:BM G Kq wz w bb a cap rd rn rc mb mx ts d dc f ws){s:QV}(L:s.size<=maxLen){w1:QX}{r:QY}(H:w1.ownsRow wz.heap.size 123 1 r ((ws s).length+1) ((ws s).map yg++[yg tb]))(M:w.grownBy w1 (f s).ownBlock)(A:∀g,r.ownBlock=some g->(f s).ownBlock=some g\/w.heap.size<=g)(W:mx<=1000000):
  ∃w2,(Instr.mapUpdate 100 (.map (some mb)) (.string s) r).run prog w1=.ok () w2/\BM G Kq wz w2 bb a cap rd rn rc mb (mx+1) ts d dc (λn=>if n=s then r else f n) (λn=>if n=s then ws s++[tb] else ws n):=by
 obtain⟨N,O,X,v,P⟩:=h.map;have I:But (λb=>(f s).ownBlock=some b) w w1:=But.aI M λb e=>e;have J:=iW v I λe=>iP v (Y_ (h.jo s) e) rfl;obtain⟨w2,Q,R,K⟩:=J.update Tryz.keyed underlying100 D6 (WideMaps.keyOf_string_mk underlying9 L) (d:=.held r) (ps:=[]) rfl;refine⟨w2,Q,?_⟩;have j:But (λb=>(f s).ownBlock=some b\/b=mb) w w2:=(I.mono λb _ e=>.inl e).trans (But.aI K λb e=>.inr (Qv e).symm);have S:But (λb=>b=mb) w1 w2:=But.aI K λb e=>(Qv e).symm;have ne:∀{b:Nat}{t:TypeId},bu w b t->t≠123->¬((f s).ownBlock=some b\/b=mb):=λB E e=>by
  rcases e with e|e
  .exact aN B (Y_ (h.jo s) e) E rfl
  .exact iP v B e
 have T:∀{b:Nat}{t:TypeId},bu w1 b t->¬b=mb:=λB e=>iP J B e
 have y:=h.row.lt;have m:=ne h.row.type A8;have U:Maps.IsMap O:=by obtain⟨Y,Z,_,_,_,rfl⟩:=v;exact⟨_,rfl⟩
 have V:Fen G w2 bb mb ts (λn=>if n=s then r else f n):=by
  have p:=h.oth.but j (λb e=>by
   rcases e with e|e
   .exact h.oth.nf s b e
   .rw[e];exact h.oth.nm)
  refine⟨p.size,p.lt,p.same,p.nb,p.nm,p.nt,λn x c=>?_,p.has⟩;by_cases e:n=s
  .simp only[QI e] at c;rcases A x c with g|g
   .exact h.oth.nf s x g
   .exact h.oth.far g
  .simp only[QJ e] at c;exact h.oth.nf n x c
 refine⟨j.kept h.kw λb e=>?_,j.row h.row m,(j.cell y m).trans h.c0,(j.cell y m).trans h.c1,(j.cell y m).trans h.c2,(j.cell y m).trans h.c3,(j.cell y m).trans h.c4,(j.cell y m).trans h.c5,h.low,j.owns h.items λb e i=>?_,λt z=>(h.fZ t z).but j (ne (h.fZ t z).row.type A8) λx c=>ne ((h.fZ t z).eZ c).1 A8,h.act,h.asc,h.tbs,h.sep,h.Av,⟨N+1,_,A7,R,λn E=>?_⟩,h.CW,λn=>?_,λn C F x c q=>?_,λn x c e=>?_,λt z=>Pz (h.qb t z) A7,V,h.gi⟩
 .rcases e with e|e
  .exact ((h.jo s).lt b e).1
  .rw[e];exact h.CW
 .rcases i with i|i
  .exact h.CX s b i e
  .exact iP v (Y_ h.items e) i
 .by_cases e:n=s
  .rw[QI e,e];exact Maps.atKey_put_same (k:=cB s) U (by show WideAt.IsKeyLit (.string _);exact trivial) _ _
  .rw[QJ e,<-P n E];exact Maps.atKey_put_other (gY e) _ _
 .by_cases e:n=s
  .simp only[QI e];have D:(ws s++[tb]).length= (ws s).length+1:=A9;have i:(ws s++[tb]).map yg= (ws s).map yg++[yg tb]:=A9;rw[D,i];exact S.owns H λb e=>T (Y_ H e)
  .simp only[QJ e];refine j.owns (h.jo n) λb D i=>?_;rcases i with i|i
   .exact h.Ar n s e b D i
   .exact iP v (Y_ (h.jo n) D) i
 .by_cases e:n=s
  .rw[QI e] at c;rw[QJ λl=>F (e.trans l.symm)] at q;rcases A x c with g|g
   .exact h.Ar s C (λl=>F (e.trans l)) x g q
   .have:=((h.jo C).lt x q).2;omega
  .rw[QJ e] at c;by_cases l:C=s
   .rw[QI l] at q;rcases A x q with g|g
    .exact h.Ar n s e x c g
    .have:=((h.jo n).lt x c).2;omega
   .rw[QJ l] at q;exact h.Ar n C F x c q
 .by_cases l:n=s
  .rw[QI l] at c;rcases A x c with g|g
   .exact h.CX s x g e
   .have:=(h.items.lt x e).2;omega
  .rw[QJ l] at c;exact h.CX n x c e
end
def lG(Kq:List Qz)(ts:List Zk)(l:List QV):List QV:=l.filter λa=>(bI (Kk Kq) (Qq (Qj ts)) a).isNone
structure pW (Kq:List Qz)(ts0:List Zk)(ws0:QV->List Nat)(tb:Nat)(L1 L2:List QV)(ts:List Zk)(ws:QV->List Nat):Prop where
 env:∀n,Qq (Qj ts) n=match Qq (Qj ts0) n with|some x=>some x|none=>if fu L1 n=true/\(Kk Kq n).isSome=true then some (Q_.fresh n) else none
 me:∃t0∈ts0,∃t∈ts,t0.tb=tb/\t.tb=tb/\t.r=t0.r/\t.op=t0.op+(lG Kq ts0 L2).length/\t.bq=t0.bq
 other:∀t∈ts,t.tb≠tb->(∃t0∈ts0,t0.tb=t.tb/\t0.r=t.r/\t0.op=t.op/\t0.bq=t.bq)\/(t.r=Q_.fresh t.r.name/\(t.op=0/\t.bq= (⟨#[]⟩,[]))/\Qq (Qj ts0) t.r.name=none)
 old:∀t0∈ts0,∃t∈ts,t.tb=t0.tb/\t.r=t0.r
 wt:∀s,ws s=if fu (lG Kq ts0 L2) s=true then ws0 s++[tb] else ws0 s
variable {ws0:QV -> List Nat}{Kq:List Qz}{ts0:List Zk}
theorem pW.start{t:Zk}(h:t∈ts0):pW Kq ts0 ws0 t.tb [] [] ts0 ws0:=
 ⟨λn=>by cases Qq (Qj ts0) n<;>simp[fu],⟨t,h,t,h,rfl,rfl,rfl,rfl,rfl⟩,λu a _=>.inl ⟨u,a,rfl,rfl,rfl,rfl⟩,λu a=>⟨u,a,rfl,rfl⟩,λs=>by simp[lG,fu]⟩
variable {n:QV}{ts:List Zk}
theorem jF :Qq (Qj ts) n=none↔∀t∈ts,t.r.name≠n:=by
 unfold Qq;rw[List.find?_eq_none];simp[Qj]
variable {ws:QV -> List Nat}{L1 L2:List QV}
theorem pW.want{ts':List Zk}(h:pW Kq ts0 ws0 tb L1 L2 ts ws)(L:d_ (Qj ts))(s:d_ (Qj ts'))(v:(ts'.map (·.tb)).Nodup)(f:Lp Kq ts n ts'):pW Kq ts0 ws0 tb (L1++[n]) L2 ts' ws:=by
 have i:∀m,fu (L1++[n]) m=true↔fu L1 m=true\/m=n:=λm=>by simp[dh]
 rcases f with⟨rfl,f⟩|⟨p,new,rfl,k,y,z,A⟩
 .refine⟨λm=>?_,h.me,h.other,h.old,h.wt⟩;rw[h.env m];cases l:Qq (Qj ts0) m with
  |some x=>rfl
  |none=>
   simp only;by_cases e:m=n
   .subst e;rcases f with f|⟨t,B,e⟩
    .rw[QJ (by rw[f];simp),QJ (by rw[f];simp)]
    .by_cases a:fu L1 m=true/\(Kk Kq m).isSome=true
     .rw[QI a,QI ⟨(i m).2 (.inl a.1),a.2⟩]
     .have:=h.env m;rw[l] at this;simp only at this;rw[QJ a] at this;exact QK e (jF.1 this t B)
   .by_cases a:fu L1 m=true/\(Kk Kq m).isSome=true
    .rw[QI a,QI ⟨(i m).2 (.inl a.1),a.2⟩]
    .rw[QJ a,QJ];rintro⟨c,d⟩;rcases (i m).1 c with g|g
     .exact a ⟨g,d⟩
     .exact e g
 .have j:∀u,u∈ts.take p++new :: ts.drop p↔u=new\/u∈ts:=λu=>by
   rw[PK,Qr];constructor
   .rintro (h|h|h)
    .exact .inr (List.mem_of_mem_take h)
    .exact .inl h
    .exact .inr (List.mem_of_mem_drop h)
   .rintro (h|h)
    .exact .inr (.inl h)
    .rw[<-QB p ts] at h;rcases PK.1 h with h|h
     .exact .inl h
     .exact .inr (.inr h)
  have C:Qq (Qj ts) n=none:=jF.2 z;have w:Qq (Qj ts0) n=none:=by
   have:=h.env n;rw[C] at this;cases l:Qq (Qj ts0) n with
   |none=>rfl
   |some x=>rw[l] at this;cases this
  have D:∀m,Qq (Qj (ts.take p++new :: ts.drop p)) m=if m=n then some (Q_.fresh n) else Qq (Qj ts) m:=λm=>by
   by_cases e:m=n
   .rw[QI e,e];have:=bO s (r:=new.r) (Qu ((j new).2 (.inl rfl)));rw[k] at this;exact this
   .rw[QJ e];cases c:Qq (Qj ts) m with
    |some x=>
     obtain⟨E,F⟩:=bA c;obtain⟨u,b,rfl⟩:=PX.1 E;have:=bO s (r:=u.r) (Qu ((j u).2 (.inr b)));rw[F] at this;exact this
    |none=>
     rw[jF] at c⊢;intro u b;rcases (j u).1 b with rfl|b
     .rw[k];exact λG=>e G.symm
     .exact c u b
  have M:∀u∈ts,u.tb≠new.tb:=λu b e=>by
   have H:(ts.take p++new :: ts.drop p).map (·.tb)= (ts.take p).map (·.tb)++new.tb :: (ts.drop p).map (·.tb):=A9;rw[H] at v;have d:=List.nodup_append.1 v;rw[<-QB p ts] at b;rcases PK.1 b with b|b
   .exact d.2.2 _ (Qu b) _ A9 e
   .exact (List.nodup_cons.1 d.2.1).1 (by rw[<-e];exact Qu b)
  refine⟨λm=>?_,?_,λu b I=>?_,λq J=>?_,h.wt⟩
  .rw[D m];by_cases e:m=n
   .rw[QI e,e,w];simp only;rw[QI ⟨(i n).2 (.inr rfl),A⟩]
   .rw[QJ e,h.env m];cases l:Qq (Qj ts0) m with
    |some x=>rfl
    |none=>
     simp only;by_cases a:fu L1 m=true/\(Kk Kq m).isSome=true
     .rw[QI a,QI ⟨(i m).2 (.inl a.1),a.2⟩]
     .rw[QJ a,QJ];rintro⟨c,d⟩;rcases (i m).1 c with g|g
      .exact a ⟨g,d⟩
      .exact e g
  .obtain⟨q,c,t,d,K⟩:=h.me;exact⟨q,c,t,(j t).2 (.inr d),K⟩
  .rcases (j u).1 b with rfl|b
   .exact .inr ⟨by rw[k];rfl,y,by rw[k];exact w⟩
   .exact h.other u b I
  .obtain⟨t,c,d⟩:=h.old q J;exact⟨t,(j t).2 (.inr c),d⟩
theorem pW.ans(h:pW Kq ts0 ws0 tb L1 L2 ts ws)(n:QV):bI (Kk Kq) (Qq (Qj ts)) n=bI (Kk Kq) (Qq (Qj ts0)) n:=by
 unfold bI;cases b:Kk Kq n with
 |none=>rfl
 |some A=>
  simp only;rw[h.env n];cases c:Qq (Qj ts0) n with
  |some x=>rfl
  |none=>
   simp only
   split
   .rename_i r hr
    split at hr
    .cases hr;rfl
    .cases hr
   .rfl
theorem pW.skip(h:pW Kq ts0 ws0 tb L1 L2 ts ws)(b:(bI (Kk Kq) (Qq (Qj ts0)) n).isSome=true):pW Kq ts0 ws0 tb L1 (L2++[n]) ts ws:=by
 have e:lG Kq ts0 (L2++[n])=lG Kq ts0 L2:=by
  unfold lG;rw[List.filter_append];cases d:bI (Kk Kq) (Qq (Qj ts0)) n with
  |none=>rw[d] at b;cases b
  |some x=>simp[d]
 exact⟨h.env,by rw[e];exact h.me,h.other,h.old,by rw[e];exact h.wt⟩
theorem pW.wait(h:pW Kq ts0 ws0 tb L1 L2 ts ws)(D:bI (Kk Kq) (Qq (Qj ts0)) n=none)(E:n∉L2){i:Nat}{t t':Zk}(F:ts[i]? =some t)(l:t.tb=tb)(A:(ts.map (·.tb)).Nodup)(x:t'.tb=tb)(y:t'.r=t.r)(G:t'.op=t.op+1)(e0:t'.bq=t.bq):pW Kq ts0 ws0 tb L1 (L2++[n]) (ts.set i t') (λm=>if m=n then ws n++[tb] else ws m):=by
 obtain⟨c,rfl⟩:=PG.1 F;have e:lG Kq ts0 (L2++[n])=lG Kq ts0 L2++[n]:=by
  unfold lG;rw[List.filter_append];simp[D]
 have H:n∉lG Kq ts0 L2:=λh=>E (List.mem_filter.1 h).1
 have I:Qj (ts.set i t')=Qj ts:=by
  rw[qF c,y];have e0:ts[i].r= (Qj ts)[i]'(by simpa[Qj] using c):=by simp[Qj]
  rw[e0,List.set_getElem_self]
 have mem:∀u∈ts.set i t',u=t'\/(u∈ts/\u.tb≠tb):=λu a=>by
  obtain⟨j,b,rfl⟩:=PN a;rw[QE] at b;rw[QU]
  split
  .exact .inl rfl
  .rename_i f
   refine .inr ⟨PL b,λe=>?_⟩;have p:=PM.1 A;rcases Nat.lt_or_gt_of_ne f with g|g
   .have:=p i j (by simpa using c) (by simpa using b) g;simp at this;exact this (l.trans e.symm)
   .have:=p j i (by simpa using b) (by simpa using c) g;simp at this;exact this (e.trans l.symm)
 have one:∀u∈ts,u.tb=tb->u=ts[i]:=λu a e=>by
  obtain⟨j,b,rfl⟩:=PN a;by_cases B:i=j
  .subst B;rfl
  .have p:=PM.1 A;rcases Nat.lt_or_gt_of_ne B with g|g
   .have:=p i j (by simpa using c) (by simpa using b) g;simp at this;exact QK (l.trans e.symm) this
   .have:=p j i (by simpa using b) (by simpa using c) g;simp at this;exact QK (e.trans l.symm) this
 have C:t'∈ts.set i t':=List.mem_iff_getElem.2 ⟨i,by rw[QE];exact c,A9⟩;have keep:∀u∈ts,u.tb≠tb->u∈ts.set i t':=λu a f=>by
  obtain⟨j,b,rfl⟩:=PN a;refine List.mem_iff_getElem.2 ⟨j,by rw[QE];exact b,?_⟩;rw[QU,QJ λe=>f (by subst e;exact l)]
 refine⟨by rw[I];exact h.env,?_,λu a f=>?_,λz J=>?_,λs=>?_⟩
 .obtain⟨z,q,t,v,w,K,k,L,M⟩:=h.me;have:=one t v K;subst this;exact⟨z,q,t',C,w,x,by rw[y,k],by rw[G,L,e];simp;omega,e0.trans M⟩
 .rcases mem u a with rfl|⟨a,_⟩
  .exact QK x f
  .exact h.other u a f
 .obtain⟨t,q,v,w⟩:=h.old z J;by_cases d:t.tb=tb
  .have:=one t q d;subst this;exact⟨t',C,by rw[x,<-d,v],by rw[y,w]⟩
  .exact⟨t,keep t q d,v,w⟩
 .rw[e];by_cases d:s=n
  .subst d;rw[QI rfl,QI (dh.2 A9),h.wt s,QJ λg=>H (dh.1 g)]
  .rw[QJ d,h.wt s];by_cases k:fu (lG Kq ts0 L2) s=true
   .rw[QI k,QI (dh.2 (PK.2 (.inl (dh.1 k))))]
   .rw[QJ k,QJ (λg=>by
     rcases PK.1 (dh.1 g) with g|g
     .exact k (dh.2 g)
     .exact d (PI.1 g))]
section
variable {G:dm}{Kq:List Qz}{wz w w':QX}{bb:Nat}{a:QW}{cap:Nat}{rd:QW}{rn rc:Nat}{mb mx:Nat}{ts:List Zk}{d:QW}{dc:Nat}{f:QV -> QY}{ws:QV -> List Nat}
theorem BM.len(h:BM G Kq wz w bb a cap rd rn rc mb mx ts d dc f ws)(j:Kq.length<=60):ts.length<=60:=by
 have b:=List.Nodup.length_le_of_subset (AL h.asc) (l₂:=Kq.map (·.name)) (λn c=>by
  obtain⟨r,e,rfl⟩:=PX.1 c;obtain⟨t,i,rfl⟩:=PX.1 e;exact qM (by rw[(h.act t i).1];rfl))
 simp[Qj] at b;omega
def N_(G:dm)(Kq:List Qz)(wz:QX)(bb:Nat)(a:QW)(cap:Nat)(rd:QW)(rn rc mb mx:Nat)(ts0:List Zk)(ws0:QV->List Nat)(i:Nat)(t:Zk)(asks:List QV)(w':QX):Prop:=
 ∃(ts0' ts:List Zk)(d:QW)(dc:Nat)(f:QV->QY)(ws:QV->List Nat),(ts0'.map λt=>(t.tb,t.r,t.op,t.bq))= ((ts0.set i {t with qs:=t.qs++asks.map Value.string}).map λt=>(t.tb,t.r,t.op,t.bq))/\BM G Kq wz w' bb a cap rd rn rc mb (mx+6) ts d dc f ws/\pW Kq ts0' ws0 t.tb asks asks ts ws
theorem Cm(F:BM G Kq wz w bb a cap rd rn rc mb mx ts d dc f ws){i:Nat}{t:Zk}(R:ts[i]? =some t)(aa:QW)(ca:Nat)(asks:List QV)(f2:asks.length<=5)(f3:∀x∈asks,x.size<=20)(f4:asks.Nodup)(hA:Strs wz aa asks)(j4:mx<=100000)(c3:Kq.length<=60)(f5:il Kq)(hN:dS wz a Kq)(_hww:∀s b,b∈ws s->∃t∈ts,t.tb=b)(f6:∀s,(ws s).length<=1000)(f7:t.op<=1000):
  Calls prog 149 #[.h bb,.h t.tb,.slice aa asks.length ca] w λe w'=>e=.returned (.tuple #[])/\N_ G Kq wz bb a cap rd rn rc mb mx ts ws i t asks w':=by
 obtain⟨is,f8,f9,g0,g3⟩:=bi Tryz.gH;obtain⟨ip,g4,g5,g6,g7⟩:=bi Tryz.zD;have S:=F.at R;have g8:w.cell? ⟨t.tb,10,none⟩=some t.qv:=S.rng 10 _ rfl;have tz:=S.row.lt;have g9:=F.qb t (PP R);have c4:=F.kw.size;have⟨HB,HI,H⟩:=dC F R S;clear F R S;go_enter func149,ntmps149
 go_wp2_with (at_builtin;refine gP rfl (.tmp 14) (.tmp 15) 26 rfl wz.heap.size 9 is _ 16 underlying26 f8 f9 g0 g3 rfl t.qv t.qs.length t.qs rfl H.o.ask aa ca asks rfl (hA.kept HB.o.kw) D6 A7 c4 ?_;intro v1 w1 a4 a5 c6;obtain⟨a6,a7,rfl⟩:=aG a4;have c7:w1.heap[t.tb]? =w.heap[t.tb]? :=a5.block _ tz λe=>aN H.o.row.type (Y_ H.o.ask e.symm) A8 rfl;have a8:=H.o.row.block c7;obtain⟨⟨_,h0⟩,h3⟩:=a8.row.at (i:=10) A7;have h4:=a8.lt;have I:=Kz (HB.o.asked HI.o (l:=asks.map Value.string) (by rw[QD];exact a4) a5 c6 (by simpa using f2));clear a4 a5 c6 c7 a8)
 obtain⟨D,a9⟩:=aj asks.length;obtain⟨A,T⟩:=aj (ts.set i {t with qv:=.slice a6 (t.qs.length+asks.length) a7,qs:=t.qs++asks.map Value.string});rw[<-T] at I;have h5:Hid ((A.map λt=>(t.tb,t.r,t.op,t.bq))= ((ts.set i {t with qs:=t.qs++asks.map Value.string}).map λt=>(t.tb,t.r,t.op,t.bq))):=by
  show _=_;rw[T,List.map_set,List.map_set]
  rfl
 have h6:Hid (A.map (·.tb)).Nodup:=I.o.tbs;have U:Hid (∃u∈A,u.tb=t.tb/\u.op=t.op):=by
  obtain⟨hl,rfl⟩:=PG.1 HI.o;exact⟨{ts[i] with qv:=.slice a6 (ts[i].qs.length+asks.length) a7,qs:=ts[i].qs++asks.map Value.string},by rw[T];exact List.mem_iff_getElem.2 ⟨i,by rw[QE];exact hl,by rw[List.getElem_set_self]⟩,rfl,rfl⟩
 obtain⟨W1,c8⟩:=aj (w1.setCell ⟨t.tb,10,none⟩ (.slice a6 (t.qs.length+asks.length) a7));rw[<-c8] at I⊢;obtain⟨tb,b0⟩:=aj t.tb;rw[<-b0] at U⊢;have h7:=Kz b0;have h8:t.op<=1000:=f7;obtain⟨h9,c9⟩:=aj t.op;rw[<-c9] at U h8;have b1:=Kz a9;rw[<-a9];have j5:D<=5:=A7;clear c8 T b0 h0 h3 h4 g8 tz H HI HB g9 c4 c9 a9;go_wp2
 go_loopw [21] (λx wr=>∃(k:Nat)(V:List Zk)(d2:QW)(b2:Nat)(E:QV->QY)(p:QV->List Nat),k<=D/\x=.b k/\BM G Kq wz wr bb a cap rd rn rc mb (mx+1+k) V d2 b2 E p/\pW Kq A ws tb (asks.take k) (asks.take k) V p) λx _=>D-(intOf x).toNat
 case atStart=>
  obtain⟨u,c,W,_⟩:=U.o;exact⟨0,A,d,dc,f,ws,Py _,rfl,I.o,by rw[<-W];exact pW.start c⟩
 case round=>
  clear I;obtain⟨k,V,d2,b2,E,p,hk,rfl,J,X⟩:=hrel;by_cases j6:k<D;rotate_left
  .obtain rfl:k=D:=A7;have Y:asks.take k=asks:=by rw[b1.o];exact Qc
   rw[Y] at X;go_wp2
   go_end0
   exact⟨rfl,A,V,d2,b2,E,p,h5.o,J.more A7,by rw[<-h7.o];exact X⟩
  obtain⟨n,L⟩:∃n,asks[k]? =some n:=⟨_,PE (by have:=b1.o;omega)⟩;have i0:n∈asks:=PP L;have j7:=f3 n i0;have Y:asks.take (k+1)=asks.take k++[n]:=by
   obtain⟨h1,h2⟩:=PG.1 L;rw[PH h1,h2]
  have d0:n∉asks.take k:=λh=>by
   obtain⟨h1,h2⟩:=PG.1 L;obtain⟨q,hq,e⟩:=PN h;rw[PW] at hq;rw[Qf] at e;exact PM.1 f4 q k A7 h1 A7 (e.trans h2.symm)
  obtain⟨b,o,rfl,i1,d1⟩:=hA k (by have:=b1.o;omega);have i2:wr.cell? ⟨b,o+k,none⟩=some (.string n):=by
   rw[J.kw.cell i1,d1];simp[List.getD,L]
  have j8:=J.len c3;have j9:(k:Int)<(D:Int):=A7;have⟨d4,i3,d5,i4⟩:=qH Y d0 J X;clear L Y d0 d1 J X;go_wp2_with fail
  refine (vX d5.o n A7 A7 f5 hN).mono ?_;rintro e w3 ⟨rfl,M,d3,b3,N,b4⟩;have k0:=N.len c3;have O:=Kz (i4.o.want d5.o.asc N.asc N.tbs b4);have i5:Hid ((∃t∈M,t.r.name=n)\/Kk Kq n=none):=by
   rcases b4 with⟨rfl,h|h⟩|⟨k1,new,rfl,hr,_⟩
   .exact .inr h
   .exact .inl h
   .exact .inl ⟨new,PK.2 (.inr A9),by rw[hr];rfl⟩
  have d6:=Kz N;clear N b4 i2;go_wp2_with fail
  refine (oW d6.o n A7 A7 i5.o).mono ?_;rintro e w4 ⟨⟨fa,tx,ok,rfl,b5⟩,k4⟩;rw[O.o.ans n] at b5;have d7:=Kz b5;have b6:=Kz (d6.o.kept k4);clear b5;cases ok;rotate_left
  .go_wp2
   go_roundw
   case rel=>exact⟨k+1,M,d3,b3,E,p,A7,C8,(b6.o.more A7).kept (ai _ _),by rw[d4.o];exact O.o.skip (by rw[d7.o];rfl)⟩
   case measure=>simp[intOf];omega
  obtain⟨va,vc,hf⟩:=aG (b6.o.jo n);obtain⟨j,m,d8,d9,k2⟩:∃(j:Nat)(m:Zk),M[j]? =some m/\m.tb=tb/\m.op<=2000:=by
   obtain⟨t0,i6,m,i7,W,i8,k3,k5⟩:=O.o.me;obtain⟨j,hj,rfl⟩:=PN i7;refine⟨j,M[j],PE hj,i8,?_⟩;obtain⟨u,c,g1,g2⟩:=U.o;have k6:(lG Kq A (asks.take k)).length<=5:=Pz (List.length_filter_le _ _) F3;have k7:t0.op=h9:=by
    rw[<-g2];have e0:=h6.o;obtain⟨Z,e1,rfl⟩:=PN i6;obtain⟨a0,e2,rfl⟩:=PN c;have:Z=a0:=by
     rcases QH Z a0 with g|g|g
     .have:=PM.1 e0 Z a0 (by simpa using e1) (by simpa using e2) g;simp at this;exact QK (W.trans g1.symm) this
     .exact g
     .have:=PM.1 e0 a0 Z (by simpa using e2) (by simpa using e1) g;simp at this;exact QK (g1.trans W.symm) this
    subst this
    rfl
   omega
  have k8:(p n).length<=1001:=by
   rw[O.o.wt n];have:=f6 n
   split
   .rw[Qi];simp;omega
   .omega
  have⟨Hf,b7,B⟩:=dC hf d8 d9;clear hf d8 d9;obtain⟨W4,b8⟩:=aj (w4.alloc (.cells #[.bool fa,.string tx] 50));have a1:Hid (BM G Kq wz W4 bb a cap rd rn rc mb (mx+1+k) M d3 b3 E p):=by rw[b8];exact b6.o.kept (ai _ _)
  have e3:Hid (∀w',K_ W4 w'->w'.cell? ⟨bb,5,none⟩=some (.map (some mb))/\(Instr.lookup 100 (.map (some mb)) (.string n) false).run prog w'=.ok (.slice va (p n).length vc) w'):=λw' K=>⟨(a1.o.kept K).c5,by rw[<-Hf.o];exact (a1.o.kept K).look D6⟩
  go_upto_region 7 with fail
  rw[<-b8];clear b8 k4;refine bG 14 e3.o λC KD a2=>?_
  refine ax 0 a2 ?_;refine ax 4 a2 ?_;refine ax 8 a2 ?_;refine au 12 λK z=>?_;go_simp
  have K5:K_ C (C.alloc (.cells #[.h tb] 123)):=ai _ _;have b9:(C.alloc (.cells #[.h tb] 123)).cell? ⟨C.heap.size,0,none⟩=some (.h tb):=X_ C #[.h tb] 123 0 _ rfl;have c0:=KD.trans K5;refine z.out _ _ (λ_=>e3.o _ c0) ?_;clear z K a2;have y:=Kz (a1.o.kept c0);obtain⟨eb,e4⟩:=aj C.heap.size;rw[<-e4] at b9⊢;generalize i9:C.alloc (.cells #[.h tb] 123)=w6 at b9 c0 y⊢;clear i9 K5 e4;have c1:=y.o.jo n;rw[Hf.o] at c1;have j0:=Kz c1;have j1:=y.o.kw.size;clear c1;try simp only[upP]
  refine au 13 λK z=>?_;refine step_append_lies _ rfl (.tmp 46) (.tmp 48) 101 rfl wz.heap.size 123 ip _ 1 8 underlying101 g4 g5 g6 g7 rfl A8 (.slice va (p n).length vc) (p n).length ((p n).map yg) rfl j0.o ⟨eb,0,none⟩ 1 1 [yg tb] rfl rfl (λj u c=>?_) (λu c=>?_) A8 D6 A7 j1 w6.heap.size rfl ?_
  .match j,c with
   |0,c=>simp at c;subst c;rw[Qo];exact b9
   |j+1,c=>simp at c
  .simp at c;subst c;rfl
  intro g gc P e5 Q c2 k9;rw[<-Hf.o] at Q c2;obtain⟨w8,l0,e6⟩:=y.o.wait (s:=n) (tb:=tb) D6 e5 Q (λx e=>by simp only[Value.ownBlock,Ql] at e;subst e;rcases c2 with h|h;exact .inl h;exact .inr (PY h.symm)) A7;have e7:=Kz e6;have e8:But (λb=>(E n).ownBlock=some b) w6 P:=But.aI Q λb e=>e;have j2:Hid (P.cell? ⟨bb,5,none⟩=some (.map (some mb))/\(Instr.lookup 100 (.map (some mb)) (.string n) false).run prog P=.ok (.slice va (p n).length vc) P):=by
   have w':=P;exact⟨(e8.cell y.o.row.lt λe=>aN y.o.row.type (Y_ (y.o.jo n) e) A8 rfl).trans y.o.c5,by have h:=y.o.sJ (s:=n) D6 Q;rw[Hf.o] at h;exact h⟩
  refine af z (λ_=>j2.o) ?_;clear z K e6 e5 Q c2 e8;refine au 14 λK z=>?_;go_simp
  refine af z (λh=>QK rfl h) ?_;clear z K;refine aF ?_;have a3:=e7.o.at b7.o;have o9:w8.cell? ⟨tb,9,none⟩=some (.b (m.op:Int)):=by rw[<-B.o];exact a3.rng 9 _ rfl
  have uz:tb<w8.heap.size:=by rw[<-B.o];exact a3.row.lt
  obtain⟨_,j3⟩:=a3.row.row.at (i:=9) A7;rw[B.o] at j3;have e9:=Kz (e7.o.store (t':={m with op:=m.op+1}) b7.o (o:=9) (v:=.b ((m.op+1:Nat):Int)) A7 rfl rfl rfl rfl rfl rfl rfl rfl rfl rfl);have f0:((m.op+1:Nat):Int)= (m.op:Int)+1:=A7;rw[f0,B.o] at e9;have f1:=Kz (O.o.wait (n:=n) (by rw[d7.o];rfl) i3.o b7.o B.o a1.o.tbs (t':={m with op:=m.op+1}) B.o rfl rfl rfl);rw[B.o] at f1;clear a3 f0;go_wp2
  go_roundw
  case rel=>exact⟨k+1,_,d3,b3,_,_,A7,C8,e9.o,by rw[d4.o];exact f1.o⟩
  case measure=>simp[intOf];omega
end
def Ow(xs:List Xz)(w':QX)(e:Ending):Prop:=∃(a:QW)(c:Nat),e=.returned (.slice a (bD xs).length c)/\Strs w' a (bD xs)
theorem zN(w:QX)(d:QW)(dc:Nat)(xs:List Xz)(a5:xs.length<=1000)(M:fI w d xs):
  Calls prog 163 #[.slice d xs.length dc] w λe w'=>Ow xs w' e/\K_ w w':=by
 obtain⟨N,O,P,Q,R⟩:=bi Tryz.gH;go_enter func163,ntmps163
 go_wp2
 go_loopg [3,8] xs.length λS T U wr=>∃(i:Nat)(c:QW)(f:Nat),T=.slice c (bD (xs.take i)).length f/\U=.b (i:Int)/\i+S=xs.length/\(bD (xs.take i)).length<=i/\K_ w wr/\Hid (wr.ownsRow w.heap.size 9 1 (.slice c (bD (xs.take i)).length f) (bD (xs.take i)).length ((bD (xs.take i)).map Value.string))
 case atStart=>exact⟨0,none,0,rfl,rfl,A7,Pw _,K_.refl _,Qt _ _ _ _⟩
 case round=>
  obtain⟨i,c,f,rfl,rfl,hi,V,p,q⟩:=hrel;by_cases a6:(i:Int)<(xs.length:Int)
  .have r:i<xs.length:=A7;obtain⟨b,o,rfl,hb,k⟩:=(M.kept p) i r;obtain⟨x,s⟩:=aj (xs.getD i Xz.zero);rw[<-s] at k;have W:=k 0 _ rfl;have t1:=k 1 _ rfl;rw[Qp] at W;have C:Hid (xs.take (i+1)=xs.take i++[x]):=by show _=_;rw[PH r,s];simp[List.getD,r]
   obtain⟨h,t⟩:=aj (bD (xs.take i));rw[<-t] at V q⊢;have D:=Kz t;clear k s t;obtain⟨a,j⟩:=aj (wr.alloc (.cells #[.bool x.fail,.string x.text] 50));have E:K_ wr a:=by rw[j];exact ai _ _
   have v:a.cell? ⟨wr.heap.size,0,none⟩=some (.bool x.fail):=by rw[j];exact X_ wr #[.bool x.fail,.string x.text] 50 0 _ rfl
   have X:a.cell? ⟨wr.heap.size,1,none⟩=some (.string x.text):=by rw[j];exact X_ wr #[.bool x.fail,.string x.text] 50 1 _ rfl
   have Y:wr.heap.size<a.heap.size:=by rw[j];simp
   go_upto_region 5 with fail
   rw[<-j];clear j;obtain⟨fb,F⟩:=aj wr.heap.size;rw[<-F] at v X Y⊢;clear F;have G:=Kz (ay q.o E);have H:=p.trans E;cases l:x.fail
   .rw[l] at v;have y:K_ a (a.alloc (.cells #[.string x.text] 9)):=ai _ _;have I:=Kz (ay G.o y);have J:=Kz (H.trans y);have Z:w.heap.size<=(a.alloc (.cells #[.string x.text] 9)).heap.size:=J.out.size;have a0:Hid (∀m u,([.string x.text]:List QY)[m]? =some u->(a.alloc (.cells #[.string x.text] 9)).cell? ((⟨a.heap.size,0,none⟩:Addr).add m)=some u):=λm u n=>by rw[Qo];exact X_ a #[.string x.text] 9 m u n
    have a1:Hid (∀u∈([.string x.text]:List QY),u.oneCell'=true):=λu n=>by simp only[Qr,Qs,or_false] at n;subst n;rfl
    clear y;go_wp2_with (at_builtin;refine wpList_append_own _ rfl (.tmp 15) (.tmp 18) 26 rfl w.heap.size 9 N _ 1 16 underlying26 O P Q R rfl A8 (.slice c h.length f) h.length (h.map Value.string) rfl I.o ⟨a.heap.size,0,none⟩ 1 1 [.string x.text] rfl rfl a0.o a1.o D6 A7 Z ?_;intro v' w6 z K _;have KP:=aL J.out (Pw _) I.o K;have HP:=Kz z;obtain⟨a2,a3,rfl⟩:=aG z;clear z K)
    go_roundg (gk-1)
    case measure=>omega
    case rel=>
     have e:bD (xs.take (i+1))=h++[x.text]:=by rw[C.o,mG,<-D.o,l];rfl
     exact⟨i+1,a2,a3,by rw[e,Qi];rfl,C8,A7,by rw[e,Qi];show h.length+1<=i+1;omega,KP,Kz (by rw[e,QM,Qi];exact HP.o)⟩
   .rw[l] at v;go_wp2
    go_roundg (gk-1)
    case measure=>omega
    case rel=>
     have e:bD (xs.take (i+1))=h:=by rw[C.o,mG,<-D.o,l];simp
     exact⟨i+1,c,f,by rw[e],C8,A7,by rw[e];omega,H,Kz (by rw[e];exact G.o)⟩
  .have a4:i=xs.length:=A7;obtain⟨a9,c9,A,B⟩:=dV q.o;simp only[Qm,true_and] at A;rw[<-A.1] at B;have L:=Kz B;clear B A;go_wp2
   go_ret
   rw[a4,Qc] at L;exact⟨⟨c,f,rfl,L.o⟩,p⟩
section
variable {G:dm}{Kq:List Qz}{wz w w':QX}{bb:Nat}{a:QW}{cap:Nat}{rd:QW}{rn rc:Nat}{mb mx:Nat}{ts:List Zk}{d:QW}{dc:Nat}{f:QV -> QY}{ws:QV -> List Nat}
theorem BM.texts(m:BM G Kq wz w bb a cap rd rn rc mb mx ts d dc f ws){i:Nat}{t:Zk}(H:ts[i]? =some t){w1:QX}{c:QY}{l:List QV}(y:w1.ownsRow wz.heap.size 9 1 c (t.r.texts.length+l.length) (t.r.texts.map Value.string++l.map Value.string))(q:w.grownBy w1 t.tv.ownBlock)(z:∀g,c.ownBlock=some g->t.tv.ownBlock=some g\/w.heap.size<=g):
  BM G Kq wz (w1.setCell ⟨t.tb,6,none⟩ c) bb a cap rd rn rc mb mx (ts.set i {t with tv:=c,r:={t.r with texts:=t.r.texts++l}}) d dc f ws:=by
 obtain⟨n,rfl⟩:=PG.1 H;have h:=m.fZ _ (PL n);have k:=m.Av _ (PL n);have I:But (λb=>b=ts[i].tb\/b∈ts[i].own) w w1:=But.aI q λb e=>.inr (PK.2 (.inl (Qe.2 e)));have J:But (λb=>b=ts[i].tb\/b∈ts[i].own) w (w1.setCell ⟨ts[i].tb,6,none⟩ c):=But.set I (p:=⟨ts[i].tb,6,none⟩) (.inl rfl) c;have A:w1.heap[ts[i].tb]? =w.heap[ts[i].tb]? :=q.block _ h.row.lt λe=>aN h.row.type (Y_ h.txt e.symm) A8 rfl;have s:aH w1 ts[i].tb 131 12:=h.row.block A;have K:w1.rangeAt ts[i].tb 0 ts[i].cells:=λL u v=>(PO (w:=w) A).trans (h.rng L u v)
 have B:∀{b:Nat},bu w1 b 9->b≠ts[i].tb:=λv=>aN v s.type A8
 have C:But (λb=>b=ts[i].tb) w1 (w1.setCell ⟨ts[i].tb,6,none⟩ c):=But.set (S:=λb=>b=ts[i].tb) (But.ak (K_.refl w1)) (p:=⟨ts[i].tb,6,none⟩) rfl c;have D:w1.ownsRow wz.heap.size 9 1 ts[i].qv ts[i].qs.length ts[i].qs:=(But.aI (S:=λb=>ts[i].tv.ownBlock=some b) q λb e=>e).owns h.ask (λb e M=>by
  have N:b∈ts[i].tv.ownBlock.toList:=Qe.2 M;have O:b∈ts[i].qv.ownBlock.toList:=Qe.2 e;unfold Zk.own at k;exact (List.nodup_append.1 k).2.2 b N b O rfl)
 refine m.turn n J (λb P=>P) ⟨s.set c,nR K s.row A7 c,?_,C.owns D λb e=>B (Y_ D e),h.low⟩ rfl rfl rfl rfl rfl (λx j=>?_) ?_ (by have:=m.qb ts[i] (PL n);exact this)
 .show World.ownsRow _ _ _ _ c (ts[i].r.texts++l).length ((ts[i].r.texts++l).map Value.string);rw[Qi,QM];exact C.owns y λb e=>B (Y_ y e)
 .unfold Zk.own at j⊢;rcases PK.1 j with j|j
  .rcases z x (Qe.1 j) with e|e
   .exact .inl (PK.2 (.inl (Qe.2 e)))
   .exact .inr e
  .exact .inl (PK.2 (.inr j))
 .unfold Zk.own at k⊢;rw[List.nodup_append] at k⊢;refine⟨?_,k.2.1,λx j E F=>?_⟩
  .show (c.ownBlock.toList).Nodup;cases c.ownBlock<;>simp
  .rcases z x (Qe.1 j) with e|e
   .exact k.2.2 x (Qe.2 e) E F
   .have:=(h.ask.lt E (Qe.1 F)).2;omega
end
theorem xn{W:bf}{σ:Env}:∀{l:List QV}{xs:List Xz},Yz W σ l=some xs->xs.length=l.length/\∀k,k<l.length->bI W σ (l.getD k ByteArray.empty)=some (xs.getD k Xz.zero)
 |[],xs,h=>by
  unfold Yz at h;cases h;exact⟨rfl,λk a=>aS a⟩
 |n :: l,xs,h=>by
  unfold Yz at h;cases b:bI W σ n with
  |none=>rw[b] at h;cases h
  |some x=>
   rw[b] at h;simp only at h;cases c:Yz W σ l with
   |none=>rw[c] at h;cases h
   |some ys=>
    rw[c] at h;simp only[Ql] at h;subst h;obtain⟨d,e⟩:=xn c;refine⟨by simp[d],λk a=>?_⟩;cases k with
    |zero=>simpa using b
    |succ k=>simpa using e k (by simpa using a)
section
variable {G:dm}{Kq:List Qz}{wz w w':QX}{bb:Nat}{a:QW}{cap:Nat}{rd:QW}{rn rc:Nat}{mb mx:Nat}{ts:List Zk}{d:QW}{dc:Nat}{f:QV -> QY}{ws:QV -> List Nat}
def Nq(G:dm)(Kq:List Qz)(wz:QX)(bb:Nat)(a:QW)(cap:Nat)(rd:QW)(rn rc mb mx:Nat)(ts:List Zk)(d:QW)(dc:Nat)(f:QV->QY)(ws:QV->List Nat)(i:Nat)(t:Zk)(g:cO)(xs:List Xz)(w':QX)(e:Ending):Prop:=
 (g.over=true/\e=.returned (.bool false)/\∃bl,(bl∈(stepOf ⟨t.cost,t.steps⟩ t.r.at').asks/\g.text= (⟨#[98,101,108,111,119,32]⟩:QV)++bl)/\BM G Kq wz w' bb a cap rd rn rc mb mx (jB (ts.set i (({t with bl:=bl}:Zk).ended true g.text)) (ws t.r.name)) d dc (λn=>if n=t.r.name then J6 else f n) λn=>if n=t.r.name then [] else ws n)\/
 (g.over=false/\e=.returned (.bool true)/\∃tv',BM G Kq wz w' bb a cap rd rn rc mb mx (ts.set i {t with tv:=tv',r:={t.r with at':=g.at',texts:=t.r.texts++bD xs}}) d dc f ws)
theorem Ac(C:BM G Kq wz w bb a cap rd rn rc mb mx ts d dc f ws){i:Nat}{t:Zk}(hi:ts[i]? =some t)(s:Xq)(hs:s=stepOf ⟨t.cost,t.steps⟩ t.r.at')(p6:0<=t.r.at')(h1:t.r.at' < t.steps.length)(f0:s.fin=false)(xs:List Xz)(j1:Yz (Kk Kq) (Qq (Qj ts)) s.asks=some xs)(f3:∀x∈xs,x.text.size<=200)(f6:Followed s xs (fV s xs))(hF:s.Fits)(p7:s.asks.length<=5)(f8:∀x∈s.asks,x.size<=20)(j2:s.asks.length≠0->0<=s.on/\s.on<s.asks.length)(j3:Kq.length<=60)(p8:t.r.texts.length<=1000)(j4:t.r.name.size<=1000)(j5:(ws t.r.name).length<=1000)(hw:∀b∈ws t.r.name,∃(j:Nat)(u:Zk),j≠i/\ts[j]? =some u/\u.tb=b/\1<=u.op/\u.op<=1000)(j6:(ws t.r.name).Nodup):
  Calls prog 147 #[.h bb,.h t.tb] w λe w'=>Nq G Kq wz bb a cap rd rn rc mb mx ts d dc f ws i t (fV s xs) xs w' e:=by
 obtain⟨ia,j7,j8,j9,k0⟩:=bi Tryz.EU;obtain⟨is,k1,k2,k3,k4⟩:=bi Tryz.gH;obtain⟨h,b5⟩:∃h:Nat,t.r.at'= (h:Int):=⟨t.r.at'.toNat,A7⟩;have k7:h<t.steps.length:=A7;have hT:=C.at hi;have f9:=C.act t (PP hi);obtain⟨y,z,cs,g0,R,L,H,F,M,N,rfl,b6,b7,_⟩:=f9.2 h k7;have g1:t.steps.getD h Xq.zero=s:=by rw[hs];unfold stepOf;rw[b5];rfl
 rw[g1] at L b6 b7;have b8:w.cell? ⟨t.tb,8,none⟩=some (.slice t.sa t.steps.length t.sc):=hT.rng 8 _ rfl;have b9:w.cell? ⟨t.tb,4,none⟩=some (.b t.r.at'):=hT.rng 4 _ rfl;rw[g0] at b8;rw[b5] at b9;have tz:=hT.row.lt;have X:y<w.heap.size:=Px R C.kw.size;have t0:w.cell? ⟨y,z+h*8,none⟩=some (.slice H s.asks.length F):=(C.kw.cell R).trans (L 0 _ rfl);have t1:w.cell? ⟨y,z+h*8+1,none⟩=some (.b s.on):=(C.kw.cell R).trans (L 1 _ rfl);have t2:w.cell? ⟨y,z+h*8+2,none⟩=some (.slice M s.cases.length N):=(C.kw.cell R).trans (L 2 _ rfl);have t3:w.cell? ⟨y,z+h*8+3,none⟩=some (.b s.els):=(C.kw.cell R).trans (L 3 _ rfl);have t4:w.cell? ⟨y,z+h*8+4,none⟩=some (.b s.fall):=(C.kw.cell R).trans (L 4 _ rfl);have t5:w.cell? ⟨y,z+h*8+5,none⟩=some (.bool false):=by rw[<-f0];exact (C.kw.cell R).trans (L 5 _ rfl)
 have t6:w.cell? ⟨y,z+h*8+6,none⟩=some (.bool s.bad):=(C.kw.cell R).trans (L 6 _ rfl);have t7:w.cell? ⟨y,z+h*8+7,none⟩=some (.string s.give):=(C.kw.cell R).trans (L 7 _ rfl);have g2:Hid (∀w',K_ w w'->w'.cell? ⟨t.tb,8,none⟩=some (.slice (some ⟨y,z,none⟩) t.steps.length t.sc)/\w'.cell? ⟨t.tb,4,none⟩=some (.b (h:Int))/\w'.cell? ⟨y,z+h*8,none⟩=some (.slice H s.asks.length F)/\w'.cell? ⟨y,z+h*8+1,none⟩=some (.b s.on)/\w'.cell? ⟨y,z+h*8+2,none⟩=some (.slice M s.cases.length N)/\w'.cell? ⟨y,z+h*8+3,none⟩=some (.b s.els)/\w'.cell? ⟨y,z+h*8+4,none⟩=some (.b s.fall)/\w'.cell? ⟨y,z+h*8+5,none⟩=some (.bool false)/\w'.cell? ⟨y,z+h*8+6,none⟩=some (.bool s.bad)/\w'.cell? ⟨y,z+h*8+7,none⟩=some (.string s.give)):=λw' K=>⟨(K.cell tz).trans b8,(K.cell tz).trans b9,(K.cell X).trans t0,(K.cell X).trans t1,(K.cell X).trans t2,(K.cell X).trans t3,(K.cell X).trans t4,(K.cell X).trans t5,(K.cell X).trans t6,(K.cell X).trans t7⟩
 obtain⟨p9,g3⟩:=xn j1;have⟨k8,HB,HI,c1,l0⟩:=fQ g3 C hi b6 b7;have⟨l1,HW,l2⟩:=dC f6 hw hs;have q1:=C.kw.size;have q2:(h:Int)<(t.steps.length:Int):=A7;have q3:=C.len j3;clear C hi hT f9 g0 L b6 b7 g1 b8 b9 t0 t1 t2 t3 t4 t5 t6 t7 g3 f6 hw b5 hs;go_enter func147,ntmps147
 go_upto_region 1 with fail
 refine bG 13 g2.o λI S n=>?_
 refine ax 0 n ?_;refine ax 4 n ?_;refine ax 8 n ?_;refine au 12 λK v=>?_;go_simp
 have K2:K_ I (I.alloc (.cells #[J6,.b 0,J6,.b 0,.b 0,.bool false,.bool false,.string ⟨#[]⟩] 146)):=ai _ _;have E:aH (I.alloc (.cells #[J6,.b 0,J6,.b 0,.b 0,.bool false,.bool false,.string ⟨#[]⟩] 146)) I.heap.size 146 8:=aH.made I _ _;have KE:=S.trans K2;have nz:=S.size;obtain⟨q,g4⟩:=aj I.heap.size;refine v.out _ _ (λ_=>g2.o _ KE) ?_;clear v K n;rw[<-g4] at E nz⊢;generalize l3:I.alloc (.cells #[J6,.b 0,J6,.b 0,.b 0,.bool false,.bool false,.string ⟨#[]⟩] 146)=wE at E KE⊢;clear l3 K2 g4;try simp only[upP]
 obtain⟨⟨_,v0⟩,l4⟩:=E.row.at (i:=0) A7;obtain⟨⟨_,v1⟩,f1⟩:=E.row.at (i:=1) A7;obtain⟨⟨_,v2⟩,f2⟩:=E.row.at (i:=2) A7;obtain⟨⟨_,v3⟩,l5⟩:=E.row.at (i:=3) A7;obtain⟨⟨_,v4⟩,f4⟩:=E.row.at (i:=4) A7;obtain⟨⟨_,v5⟩,f5⟩:=E.row.at (i:=5) A7;obtain⟨⟨_,v6⟩,g5⟩:=E.row.at (i:=6) A7;obtain⟨⟨_,v7⟩,f7⟩:=E.row.at (i:=7) A7;have vz:=E.lt;refine au 13 λK v=>?_;go_simp
 refine af v (λJ=>QK rfl J) ?_;clear v K;refine aF ?_;have O:=Kz (PD wE q 0 [.slice H s.asks.length F,.b s.on,.slice M s.cases.length N,.b s.els,.b s.fall,.bool false,.bool s.bad,.string s.give] (E.row.there (o:=0) (m:=8) (Pw _)));have Y:=Kz (dL (g:=q) nz [.slice H s.asks.length F,.b s.on,.slice M s.cases.length N,.b s.els,.b s.fall,.bool false,.bool s.bad,.string s.give] 0 KE);have g6:=Kz (aH.sets [.slice H s.asks.length F,.b s.on,.slice M s.cases.length N,.b s.els,.b s.fall,.bool false,.bool s.bad,.string s.give] 0 E);obtain⟨T,c2⟩:=aj (wE.setCells q 0 [.slice H s.asks.length F,.b s.on,.slice M s.cases.length N,.b s.els,.b s.fall,.bool false,.bool s.bad,.string s.give]);rw[<-c2] at O Y g6;go_upto_region 2 with fail
 have g7:((((((((wE.setCell ⟨q,0,none⟩ (.slice H s.asks.length F)).setCell ⟨q,1,none⟩ (.b s.on)).setCell ⟨q,2,none⟩ (.slice M s.cases.length N)).setCell ⟨q,3,none⟩ (.b s.els)).setCell ⟨q,4,none⟩ (.b s.fall)).setCell ⟨q,5,none⟩ (.bool false)).setCell ⟨q,6,none⟩ (.bool s.bad)).setCell ⟨q,7,none⟩ (.string s.give))=T:=by rw[c2];rfl
 rw[g7];clear g7 c2 v0 v1 v2 v3 v4 v5 v6 v7 l4 f1 f2 l5 f4 f5 g5 f7 vz E KE nz S;have c3:=Kz (HB.o.kept Y.o);have q0:T.cell? ⟨q,0,none⟩=some (.slice H s.asks.length F):=O.o 0 _ rfl;have U:=g6.o.lt;have g8:Hid (∀w',K_ T w'->w'.cell? ⟨q,0,none⟩=some (.slice H s.asks.length F)/\w'.cell? ⟨q,1,none⟩=some (.b s.on)/\w'.cell? ⟨q,2,none⟩=some (.slice M s.cases.length N)/\w'.cell? ⟨q,3,none⟩=some (.b s.els)/\w'.cell? ⟨q,4,none⟩=some (.b s.fall)/\w'.cell? ⟨q,5,none⟩=some (.bool false)/\w'.cell? ⟨q,6,none⟩=some (.bool s.bad)/\w'.cell? ⟨q,7,none⟩=some (.string s.give)):=λw' K=>⟨(K.cell U).trans (O.o 0 _ rfl),(K.cell U).trans (O.o 1 _ rfl),(K.cell U).trans (O.o 2 _ rfl),(K.cell U).trans (O.o 3 _ rfl),(K.cell U).trans (O.o 4 _ rfl),(K.cell U).trans (O.o 5 _ rfl),(K.cell U).trans (O.o 6 _ rfl),(K.cell U).trans (O.o 7 _ rfl)⟩
 go_wp2
 go_loopg [6,27] s.asks.length λgg x6 l6 wr=>∃(k:Nat)(V:QW)(cv:Nat),x6=.slice V k cv/\l6=.b (k:Int)/\k+gg=s.asks.length/\K_ T wr/\Hid (wr.ownsRow T.heap.size 50 2 (.slice V k cv) k (dM (xs.take k)))
 case atStart=>exact⟨0,none,0,rfl,rfl,A7,K_.refl _,Qt _ _ _ _⟩
 case round=>
  obtain⟨k,V,cv,rfl,rfl,q4,Kr,HO⟩:=hrel;by_cases q5:(k:Int)<(s.asks.length:Int)
  .have a8:k<s.asks.length:=A7;obtain⟨a1,Z⟩:=aj (s.asks.getD k ByteArray.empty);obtain⟨x,hx⟩:=aj (xs.getD k Xz.zero);have a0:=k8.o k a8;rw[<-Z,<-hx] at a0;obtain⟨b,o,rfl,c4,a2⟩:=c1.o k a8;rw[<-Z] at a2;have l7:=HB.o.kw.trans (Y.o.trans Kr);have c0:wr.cell? ⟨b,o+k,none⟩=some (.string a1):=(l7.cell c4).trans a2;have q6:a1.size<=20:=by rw[Z];simp only[List.getD,PE a8,QL];exact f8 _ (PL a8)
   have l8:Hid (xs.take (k+1)=xs.take k++[x]):=by
    show _=_;rw[PH A7,hx];simp[List.getD,(A7:k<xs.length)]
   have c5:Hid ((∃t∈ts,t.r.name=a1)\/Kk Kq a1=none):=by
    cases hA:Kk Kq a1 with
    |none=>exact .inr rfl
    |some A=>
     refine .inl ?_;unfold bI at a0;rw[hA] at a0;simp only at a0;cases he:Qq (Qj ts) a1 with
     |none=>rw[he] at a0;cases a0
     |some r=>
      obtain⟨h1,h2⟩:=bA he;obtain⟨u,hu,rfl⟩:=PX.1 h1;exact⟨u,hu,h2⟩
   have l9:=Kz a0;clear Z hx a0 a2;go_wp2_with fail
   refine (oW (c3.o.kept Kr) a1 A7 A7 c5.o).mono ?_;rintro e w4 ⟨⟨fa,tx,ok,rfl,a6⟩,g9⟩;rw[l9.o] at a6;cases ok
   .simp at a6
   simp only[if_true,Ql] at a6;have K4:=Kr.trans g9;have m0:=Kz (ay HO.o g9);have HX:Hid (x= ⟨fa,tx⟩):=a6;clear a6 c0;obtain⟨W5,b0⟩:=aj ((w4.alloc (.cells #[.bool fa,.string tx] 50)).alloc (.cells #[.bool fa,.string tx] 50));have K5:K_ w4 W5:=by rw[b0];exact (ai _ _).alloc _
   have h0:=Kz (ay m0.o K5);have KK:=Kz (K4.trans K5);have m1:T.heap.size<=W5.heap.size:=KK.out.size;have m2:Hid (∀j u,([.bool fa,.string tx]:List QY)[j]? =some u->W5.cell? ((⟨w4.heap.size+1,0,none⟩:Addr).add j)=some u):=λj u hu=>by
    rw[Qo,b0];have:=X_ (w4.alloc (.cells #[.bool fa,.string tx] 50)) #[.bool fa,.string tx] 50 j u hu;rw[Qh] at this;exact this
   have m3:Hid (∀u∈([.bool fa,.string tx]:List QY),u.oneCell'=true):=λu hu=>by simp only[Qr,Qs,or_false] at hu;rcases hu with rfl|rfl<;>rfl
   have q7:k<=5:=A7;have m4:=Kz b0;clear b0;go_wp2_with (at_builtin;rw[<-m4.o];refine wpList_append_own _ rfl (.tmp 37) (.tmp 39) 147 rfl T.heap.size 50 ia _ 2 24 underlying147 j7 j8 j9 k0 rfl A8 (.slice V k cv) k (dM (xs.take k)) rfl h0.o ⟨w4.heap.size+1,0,none⟩ 1 1 [.bool fa,.string tx] rfl rfl m2.o m3.o D6 A7 m1 ?_;intro v' D c6 h3 _;have KP:=aL KK.out (Pw _) h0.o h3;have HP:=Kz c6;obtain⟨m5,m6,rfl⟩:=aG c6;clear c6 h3)
   go_roundg (gk-1)
   case measure=>omega
   case rel=>exact⟨k+1,m5,m6,rfl,C8,A7,KP,Kz (by rw[l8.o,qy,HX.o];exact HP.o)⟩
  .have h4:xs.length=k:=A7;have b1:=Kz h4;have hO:=HO.o;rw[Qd A7] at hO;obtain⟨a9,m7,e9,_,a7⟩:=kG hO;simp only[Qm] at e9;obtain⟨rfl,m8,rfl⟩:=e9;clear m8;have⟨q8,h5⟩:=aJ a7 a7.answers;obtain⟨u0,u1,u2,u3,u4,u5,u6,u7⟩:=g8.o wr Kr;have q9:=Px U Kr.size;clear hO a7 q0 h4;go_wp2_with fail
   refine (xy wr s H M F N).mono ?_;rintro e w5 ⟨rfl,k5⟩;have K5:=Kr.trans k5;clear u0 u1 u2 u3 u4 u5 u6 u7;go_wp2_with fail
   have c7:=Gc w5 s f0 H M V F N cv xs hF (c1.o.kept (HB.o.kw.trans (Y.o.trans K5))) (l0.o.kept (HB.o.kw.trans (Y.o.trans K5))) D6 (λc hc=>by have:=f3 c hc;unfold maxLen;omega) (h5.o.kept k5) j2 (λB hq=>by simp only[List.getD,List.getElem?_eq_getElem hq,Option.getD_some];exact f8 _ (List.getElem_mem hq));rw[b1.o] at c7;refine c7.mono ?_;rintro e D ⟨⟨g,rfl,c8⟩,k6⟩;have h6:fV s xs=g:=l1.o.unique c8;have⟨h7,m9⟩:=aJ h6 c8;dsimp only[cO.cells];have K6:=K5.trans k6;clear c7 c8 h6;obtain⟨W,a3⟩:=aj (D.alloc (.cells #[.b g.code,.bool g.over,.b g.at',.string g.text] 151));have h8:K_ D W:=by rw[a3];exact ai _ _
   have p1:W.cell? ⟨D.heap.size,1,none⟩=some (.bool g.over):=by rw[a3];exact X_ D #[.b g.code,.bool g.over,.b g.at',.string g.text] 151 1 _ rfl
   have n0:W.cell? ⟨D.heap.size,2,none⟩=some (.b g.at'):=by rw[a3];exact X_ D #[.b g.code,.bool g.over,.b g.at',.string g.text] 151 2 _ rfl
   have p3:W.cell? ⟨D.heap.size,3,none⟩=some (.string g.text):=by rw[a3];exact X_ D #[.b g.code,.bool g.over,.b g.at',.string g.text] 151 3 _ rfl
   have h9:D.heap.size<W.heap.size:=by rw[a3];simp
   go_upto_region 10 with fail
   rw[<-a3];clear a3;have K7:=K6.trans h8;have i0:K_ wr W:=(k5.trans k6).trans h8;have c5:=h5;have n1:Hid (∀(c9:QY)(b:Nat),b<T.heap.size->fI (W.setCell ⟨b,4,none⟩ c9) V xs):=λc9 b hb=>by
    have h1:=ay HO.o i0;rw[Qd (by have:=b1.o;omega)] at h1;obtain⟨a9,m7,e9,_,a7⟩:=kG (eQ h1 (p:=⟨b,4,none⟩) hb c9);simp only[Qm] at e9;rw[e9.1];exact a7.answers
   cases P:g.over
   .rw[P] at p1;have d0:=c3.o.kept K7;have d1:=d0.at HI.o;obtain⟨⟨_,x4⟩,f4⟩:=d1.row.row.at (i:=4) A7;have n2:=d1.row.lt;have b2:=Kz (d0.store (t':={t with r:={t.r with at':=g.at'}}) HI.o (o:=4) (v:=.b g.at') A7 rfl rfl rfl rfl rfl rfl rfl rfl rfl rfl);clear d0 d1;go_upto_region 15 with fail
    obtain⟨w8,d2⟩:=aj (W.setCell ⟨t.tb,4,none⟩ (.b g.at'));have n3:t.tb<T.heap.size:=Px tz Y.o.size;have n4:Hid (fI w8 V xs):=by rw[d2];exact n1.o _ _ n3
    rw[<-d2] at b2⊢;clear d2 x4 f4 n2 p1 n0 p3;have d3:i<ts.length:=(PG.1 HI.o).1;have b3:Hid ((ts.set i {t with r:={t.r with at':=g.at'}})[i]? =some {t with r:={t.r with at':=g.at'}}):=QF d3;have n5:=Kz (b2.o.at b3.o);obtain⟨ta,tc,n6⟩:=aG n5.o.txt;have r0:=Kz n6;have i1:Hid (∀w',K_ w8 w'->w'.cell? ⟨t.tb,6,none⟩=some (t.tv)):=λw' K=>((b2.o.kept K).at b3.o).rng 6 _ rfl
    refine bG 12 i1.o λI S n=>?_
    refine ax 0 n ?_;refine ae 4 n ?_;refine ae 5 n ?_;refine ae 6 n ?_;refine aD 7 λK v=>?_;go_simp
    go_at_call 163
    have d4:=zN I V cv xs A7 (n4.o.kept S);rw[b1.o] at d4;refine d4.mono ?_;rintro e w9 ⟨⟨ga,gc,rfl,i2⟩,k9⟩;have K9:=S.trans k9;have a4:=Kz (b2.o.kept K9);have a5:=Kz (a4.o.at b3.o);have n7:=Kz i2;have d5:=a4.o.kw.size;have r1:(bD xs).length<=5:=by have:=List.length_filter_le (λx:Xz=>!x.fail) xs;unfold bD;rw[QD];omega
    refine af v (λ_=>i1.o _ K9) ?_;clear v K n d4 i2;refine aD 8 λK v=>?_;refine fH (.tmp 73) (.tmp 75) 26 rfl wz.heap.size 9 is _ 16 underlying26 k1 k2 k3 k4 rfl t.tv t.r.texts.length (t.r.texts.map Value.string) rfl a5.o.txt ga gc (bD xs) rfl n7.o D6 A7 d5 ?_;intro v' wA d6 d7 i3;obtain⟨va,vc,rfl⟩:=aG d6;have n8:=Kz (a4.o.texts (l:=bD xs) b3.o d6 d7 i3);have d8:wA.heap[t.tb]? =w9.heap[t.tb]? :=d7.block _ a5.o.row.lt λe=>aN a5.o.row.type (Y_ a5.o.txt e.symm) A8 rfl;have d9:aH wA t.tb 131 12:=a5.o.row.block d8;have i4:Hid (wA.cell? ⟨t.tb,6,none⟩=some t.tv):=(PO (w:=w9) d8).trans (a5.o.rng 6 _ rfl);obtain⟨⟨_,x6⟩,g5⟩:=d9.row.at (i:=6) A7;have r2:=d9.lt;refine v.out _ _ (λ_=>i4.o) ?_;clear v K d6 d7 i3 d8 d9;have n:=i4.o;try simp only[upP]
    refine ae 9 n ?_;refine ae 10 n ?_;refine ae 11 n ?_;refine au 12 λK v=>?_;go_simp
    refine af v (λJ=>QK rfl J) ?_;clear v K n;refine aF ?_;have e0:=n8.o;rw[List.set_set] at e0;have n9:=Kz e0;clear e0;go_wp2
    go_ret
    rw[h7.o];exact .inr ⟨P,rfl,.slice va (t.r.texts.length+(bD xs).length) vc,n9.o⟩
   .rw[P] at p1;obtain⟨B,o0,e1,i5,i6⟩:∃B,B<xs.length/\ja (xs.getD B Xz.zero)/\nC xs ja B/\g.text=kU s B:=by
     rcases m9.o with⟨_,e⟩|⟨_,⟨B,h1,h2,e2,⟨_,e⟩|⟨_,e⟩⟩|⟨_,r,_,e⟩⟩
     .rw[e] at P;cases P
     .exact⟨B,h1,h2,e2,by rw[e]⟩
     .rw[e] at P;cases P
     .rw[e] at P;cases P
    have e3:B<s.asks.length:=A7;obtain⟨b,o,rfl,c4,a2⟩:=c1.o B e3;obtain⟨Q,b4⟩:=aj (s.asks.getD B ByteArray.empty);rw[<-b4] at a2;have o1:Hid (Q∈(stepOf ⟨t.cost,t.steps⟩ t.r.at').asks/\g.text= (⟨#[98,101,108,111,119,32]⟩:QV)++Q):=by
     refine⟨?_,by rw[i6,b4];rfl⟩;rw[<-l2.o,b4];simp only[List.getD,PE e3,QL];exact PL e3
    have e4:Hid (∀w',K_ W w'->w'.cell? ⟨q,0,none⟩=some (.slice (some ⟨b,o,none⟩) s.asks.length F)/\w'.cell? ⟨b,o+B,none⟩=some (.string Q)):=λw' K=>⟨(g8.o w' (K7.trans K)).1,((HB.o.kw.trans (Y.o.trans (K7.trans K))).cell c4).trans a2⟩
    have o2:Hid (∀r,CB xs ja r->r= (B:Int)):=λr hr=>by
     rcases hr with⟨j,hj,rfl,hp,Z⟩|⟨_,Z⟩
     .rcases QH j B with J|J|J
      .exact QK hp (i5 j J)
      .rw[J]
      .exact QK e1 (Z B J)
     .exact QK e1 (Z B o0)
    have r3:(B:Int)<(s.asks.length:Int):=A7;clear a2 b4 e1 i5 i6;go_upto_region 11 with fail
    refine bG 9 e4.o λI S n=>?_
    refine ax 0 n ?_;refine aD 4 λK v=>?_;go_simp
    go_at_call 161
    have e5:=Bi I V cv xs D6 (λc hc=>by have:=f3 c hc;unfold maxLen;omega) (c5.o.kept (i0.trans S));rw[b1.o] at e5;refine e5.mono ?_;rintro e w8 ⟨⟨o3,rfl,i7⟩,o4⟩;obtain rfl:=o2.o o3 i7;have K8:=S.trans o4;refine v.out _ _ (λ_=>e4.o _ K8) ?_;clear v K n i7 e5;have n:=e4.o _ K8;try simp only[upP]
    refine ax 5 n ?_;have e6:=c3.o.kept (K7.trans K8);have e7:=e6.at HI.o;obtain⟨⟨_,o5⟩,o6⟩:=e7.row.row.at (i:=11) A7;have o7:=e7.row.lt;have a4:=Kz (e6.store (t':={t with bl:=Q}) HI.o (o:=11) (v:=.string Q) A7 rfl rfl rfl rfl rfl rfl rfl rfl rfl rfl);have p3:=(K8.cell (b:=D.heap.size) (o:=3) h9).trans p3;have i8:D.heap.size<w8.heap.size:=Px h9 K8.size;have o8:D.heap.size≠t.tb:=by have:=(HB.o.at HI.o).row.lt;have r4:=(Y.o.trans K6).size;omega
    clear e6 e7;refine au 9 λK v=>?_;go_simp
    refine af v (λJ=>QK rfl J) ?_;clear v K n;refine aF ?_;have d3:i<ts.length:=(PG.1 HI.o).1;have o9:(w8.setCell ⟨t.tb,11,none⟩ (.string Q)).cell? ⟨D.heap.size,3,none⟩=some (.string g.text):=by rw[Zj o8];exact p3
    have d5:D.heap.size<(w8.setCell ⟨t.tb,11,none⟩ (.string Q)).heap.size:=by rw[size_setCell];exact i8
    obtain⟨w9,i9⟩:=aj (w8.setCell ⟨t.tb,11,none⟩ (.string Q));rw[<-i9] at a4 o9 d5⊢;clear i9 p3 o5 o6 o7 i8;go_wp2_with fail
    refine (om a4.o (i:=i) (t:={t with bl:=Q}) (QF d3) true g.text j4 j5 (λb hb=>?_) j6).mono ?_
    .obtain⟨j,u,j0,p0,e2,p2,p4⟩:=HW.o b hb;exact⟨j,u,by rw[PT (Ne.symm j0),PT (Ne.symm j0)];exact p0,e2,p2,p4⟩
    rintro e wF ⟨rfl,e8⟩;rw[List.set_set] at e8;have p5:=Kz e8;clear e8;go_wp2
    go_ret
    rw[h7.o];exact .inl ⟨P,rfl,Q,o1.o,p5.o⟩
end
variable {ts:List Zk}{i:Nat}{t:Zk}
theorem wY{t':Zk}(d:ts[i]? =some t)(f:(ts.map (·.tb)).Nodup):∀u∈ts.set i t',u=t'\/(u∈ts/\u.tb≠t.tb):=λu h=>by
 obtain⟨b,rfl⟩:=PG.1 d;obtain⟨j,a,rfl⟩:=PN h;rw[QE] at a;rw[QU]
 split
 .exact .inl rfl
 .rename_i hne
  refine .inr ⟨PL a,λe=>?_⟩;have c:=PM.1 f;rcases Nat.lt_or_gt_of_ne hne with g|g
  .have:=c i j (by simpa using b) (by simpa using a) g;simp at this;exact this e.symm
  .have:=c j i (by simpa using a) (by simpa using b) g;simp at this;exact this e
theorem Cy{t':Zk}(a:ts[i]? =some t):t'∈ts.set i t'/\∀u∈ts,u.tb≠t.tb->u∈ts.set i t':=by
 obtain⟨b,rfl⟩:=PG.1 a;refine⟨List.mem_iff_getElem.2 ⟨i,by rw[QE];exact b,A9⟩,λu c d=>?_⟩;obtain⟨j,f,rfl⟩:=PN c;refine List.mem_iff_getElem.2 ⟨j,by rw[QE];exact f,?_⟩;rw[QU,QJ λe=>d (by subst e;rfl)]
variable {l:List Nat}
theorem Ee{u:Zk}:u∈jB ts l↔∃v∈ts,u=if v.tb∈l then {v with op:=v.op-1} else v:=by
 unfold jB;rw[PX];constructor
 .rintro⟨v,a,b⟩;exact⟨v,a,b.symm⟩
 .rintro⟨v,a,b⟩;exact⟨v,a,b.symm⟩
theorem Om{v:Zk}:(if v.tb∈l then {v with op:=v.op-1} else v:Zk).bl=v.bl:=by
 by_cases h:v.tb∈l
 .rw[QI h]
 .rw[QJ h]
theorem Oe{v:Zk}:(if v.tb∈l then {v with op:=v.op-1} else v:Zk).qs=v.qs:=by
 by_cases h:v.tb∈l
 .rw[QI h]
 .rw[QJ h]
theorem jX{v:Zk}:(if v.tb∈l then {v with op:=v.op-1} else v:Zk).tb=v.tb/\(if v.tb∈l then {v with op:=v.op-1} else v:Zk).r=v.r:=by
 by_cases h:v.tb∈l
 .rw[QI h];exact⟨rfl,rfl⟩
 .rw[QJ h];exact⟨rfl,rfl⟩
theorem Lc(ts:List Zk)(l:List Nat):Qj (jB ts l)=Qj ts:=by
 unfold Qj jB;rw[List.map_map]
 congr 1
 funext v
 exact jX.2
theorem BX{l:List Q_}{r a:Q_}(q:d_ l)(s:l[i]? =some r)(c:a.name=r.name)(m:QV):Qq (l.set i a) m=if m=r.name then some a else Qq l m:=by
 obtain⟨k,rfl⟩:=PG.1 s;have n:=BD q k c;have t:a∈l.set i a:=List.mem_iff_getElem.2 ⟨i,by rw[QE];exact k,A9⟩;by_cases e:m=l[i].name
 .rw[QI e];have:=bO n t;rw[c,<-e] at this;exact this
 .rw[QJ e];cases h:Qq l m with
  |some x=>
   obtain⟨v,p⟩:=bA h;obtain⟨j,b,rfl⟩:=PN v;have w:i≠j:=λd=>e (by subst d;exact p.symm)
   have f:l[j]∈l.set i a:=List.mem_iff_getElem.2 ⟨j,by rw[QE];exact b,by rw[QU,QJ w]⟩;have:=bO n f;rw[p] at this;exact this
  |none=>
   unfold Qq at h⊢;rw[List.find?_eq_none] at h⊢;intro x f;obtain⟨j,b,rfl⟩:=PN f;rw[QE] at b;rw[QU]
   split
   .rw[c];simpa using λd=>e d.symm
   .exact h _ (PL b)
theorem Aa{l:List QV}{n:QV}(h:l.Nodup):(l.filter λa=>!decide (a=n)).length=if fu l n=true then l.length-1 else l.length:=by
 induction l with
 |nil=>simp[fu]
 |cons x l b=>
  rw[List.nodup_cons] at h;have b:=b h.2;by_cases e:x=n
  .subst e;have c:¬fu l x=true:=λg=>h.1 (dh.1 g)
   rw[QJ c] at b;rw[QI (dh.2 A9)];simp[b]
  .have d:fu (x :: l) n=fu l n:=by simp[fu,e]
   rw[d];simp only[List.filter_cons,e,decide_false,Bool.not_false,if_true,Qn];rw[b];by_cases g:fu l n=true
   .rw[QI g,QI g];have:0<l.length:=List.length_pos_of_mem (dh.1 g);omega
   .rw[QJ g,QJ g]
variable {ws:QV -> List Nat}{Kq:List Qz}
theorem BS.self(h:BS Kq ts ws)(a:t∈ts)(c:bg (Kk Kq) (Qq (Qj ts)) t.r):t.op=0/\pend (Kk Kq) (Qq (Qj ts)) t.r=[]/\∀s,t.tb∉ws s:=by
 have d:=h.good.good t.r (Qu a);obtain⟨A,e,_⟩:=d.act;have b:=((Az (by rw[e];rfl)).1 c).2;refine⟨by rw[h.op t a,b];rfl,b,λs f=>?_⟩;have:=(h.wt s t a).1 f;rw[b] at this;cases this
theorem BS.ended(E:aX (Kk Kq))(h:BS Kq ts ws)(N:(ts.map (·.tb)).Nodup){t':Zk}(j:ts[i]? =some t)(f:bg (Kk Kq) (Qq (Qj ts)) t.r)(k:t'.r= (Xx (Kk Kq) (Qq (Qj ts)) t.r).1)(F:t'.r.over=true)(G:(Xx (Kk Kq) (Qq (Qj ts)) t.r).2=[])(H:t'.tb=t.tb)(O:t'.op=t.op)(P:CE (Kk Kq) t'.r t'.bl)(Q:t'.qs=t.qs):
  BS Kq (jB (ts.set i t') (ws t.r.name)) (λn=>if n=t.r.name then [] else ws n)/\Qq (Qj (jB (ts.set i t') (ws t.r.name)))=doX (Kk Kq) (Qq (Qj ts)) t.r.name:=by
 have p:t∈ts:=PP j;obtain⟨R,h2,y⟩:=h.self p f;have z:(Qj ts)[i]? =some t.r:=by unfold Qj;rw[List.getElem?_map,j];rfl
 have S:i<ts.length:=(PG.1 j).1;have I:t'.r.name=t.r.name:=by rw[k,dz]
 have J:Qj (jB (ts.set i t') (ws t.r.name))= (Qj ts).set i t'.r:=by rw[Lc,qF S]
 have q:Qq (Qj ts) t.r.name=some t.r:=bO h.good.asc (Qu p);have A:Qq (Qj (jB (ts.set i t') (ws t.r.name)))=doX (Kk Kq) (Qq (Qj ts)) t.r.name:=by
  funext m
  rw[J,BX h.good.asc z I,eD q,k];by_cases e:m=t.r.name
  .rw[QI e,QI e]
  .rw[QJ e,QJ e];cases Qq (Qj ts) m with
   |some x=>rfl
   |none=>
    simp only;rw[QJ (by rw[G];simp[fu])]
 have K:=h.good.good t.r (Qu p);have T:(Kk Kq t.r.name).isSome=true:=by obtain⟨U,B,_⟩:=K.act;rw[B];rfl
 have L:∀x:Q_,pend (Kk Kq) (Qq (Qj (jB (ts.set i t') (ws t.r.name)))) x= (pend (Kk Kq) (Qq (Qj ts)) x).filter (λa=>!decide (a=t.r.name)):=λx=>by
  rw[A,GV q f.1 T,<-k,QI F]
 have M:∀σ,pend (Kk Kq) σ t'.r=[]:=λσ=>by unfold pend;rw[QI (.inl F)]
 have V:∀u∈ts,(pend (Kk Kq) (Qq (Qj ts)) u.r).Nodup:=λu d=>by
  obtain⟨U,B,W,C⟩:=(h.good.good u.r (Qu d)).act;exact Fz E B W C
 have l:∀u∈jB (ts.set i t') (ws t.r.name),u=t'\/∃v∈ts,v.tb≠t.tb/\u=if v.tb∈ws t.r.name then {v with op:=v.op-1} else v:=λu d=>by
  obtain⟨v,c,rfl⟩:=Ee.1 d;rcases wY j N v c with rfl|⟨C,D⟩
  .left
   rw[QJ (by rw[H];exact y _)]
  .exact .inr ⟨v,C,D,rfl⟩
 refine⟨⟨⟨by rw[J];exact BD h.good.asc (PG.1 z).1 (I.trans (congrArg Q_.name (PG.1 z).2).symm),λx X=>?_⟩,λu d=>?_,λs u d=>?_,λs=>?_,λs b w=>?_,λu d=>?_,λu d=>?_⟩,A⟩
 rotate_right
 .rw[A];rcases l u d with rfl|⟨v,c,_,rfl⟩
  .have:=(h.qs t p).unit f;rw[G,List.map_nil,List.append_nil,<-k,<-Q] at this;exact this.mono ⟨t.r,q,f⟩
  .rw[jX.2,Oe];exact (h.qs v c).mono ⟨t.r,q,f⟩
 rotate_right
 .rcases l u d with rfl|⟨v,c,_,rfl⟩
  .exact P
  .rw[jX.2,Om];exact h.bl v c
 .obtain⟨u,d,rfl⟩:=PX.1 X;rcases l u d with rfl|⟨v,c,_,rfl⟩
  .rw[k];exact fK E h.good.env K f
  .rw[jX.2];exact h.good.good v.r (Qu c)
 .rcases l u d with rfl|⟨v,c,Y,rfl⟩
  .rw[M,O,R];rfl
  .rw[jX.2,L,Aa (V v c)];by_cases g:v.tb∈ws t.r.name
   .rw[QI g,QI (dh.2 ((h.wt _ v c).1 g))];show v.op-1=_;rw[h.op v c]
   .rw[QJ g,QJ λD=>g ((h.wt _ v c).2 (dh.1 D))];exact h.op v c
 .rcases l u d with rfl|⟨v,c,Y,rfl⟩
  .rw[M];simp only[Qs,iff_false];intro g
   split at g
   .cases g
   .rw[H] at g;exact y _ g
  .rw[jX.1,jX.2,L,List.mem_filter];by_cases e:s=t.r.name
   .simp[e]
   .simp only[e,if_false];rw[h.wt s v c];simp
 .by_cases e:s=t.r.name
  .rw[QI e];exact List.nodup_nil
  .rw[QJ e];exact h.wn s
 .split at w
  .cases w
  .obtain⟨v,c,e⟩:=h.ww s b w;by_cases g:v.tb=t.tb
   .exact QK w (by rw[<-e,g];exact y s)
   .exact⟨_,Ee.2 ⟨v,(Cy j).2 v c g,rfl⟩,by rw[jX.1];exact e⟩
theorem rY(d:(ts.map (·.tb)).Nodup){u v:Zk}(f:u∈ts)(h:v∈ts)(e:u.tb=v.tb):u=v:=by
 obtain⟨i,a,rfl⟩:=PN f;obtain⟨j,b,rfl⟩:=PN h;have c:=PM.1 d;rcases QH i j with g|g|g
 .have:=c i j (by simpa using a) (by simpa using b) g;simp at this;exact QK e this
 .subst g;rfl
 .have:=c j i (by simpa using b) (by simpa using a) g;simp at this;exact QK e.symm this
variable {ts':List Zk}
theorem Jp(h:(ts'.map λt=>(t.tb,t.r,t.op,t.bq))= (ts.map λt=>(t.tb,t.r,t.op,t.bq))):(∀u∈ts',∃v∈ts,v.tb=u.tb/\v.r=u.r/\v.op=u.op/\v.bq=u.bq)/\(∀v∈ts,∃u∈ts',u.tb=v.tb/\u.r=v.r/\u.op=v.op/\u.bq=v.bq):=by
 constructor
 .intro u b;have:(u.tb,u.r,u.op,u.bq)∈ts'.map λt=>(t.tb,t.r,t.op,t.bq):=PX.2 ⟨u,b,rfl⟩
  rw[h] at this;obtain⟨v,c,e⟩:=PX.1 this;simp only[Prod.mk.injEq] at e;exact⟨v,c,e.1,e.2.1,e.2.2.1,e.2.2.2⟩
 .intro v c;have:(v.tb,v.r,v.op,v.bq)∈ts.map λt=>(t.tb,t.r,t.op,t.bq):=PX.2 ⟨v,c,rfl⟩
  rw[<-h] at this;obtain⟨u,b,e⟩:=PX.1 this;simp only[Prod.mk.injEq] at e;exact⟨u,b,e.1,e.2.1,e.2.2.1,e.2.2.2⟩
theorem Gi(h:(ts'.map λt=>(t.tb,t.r,t.op,t.bq))= (ts.map λt=>(t.tb,t.r,t.op,t.bq))):Qj ts'=Qj ts:=by
 have:=congrArg (List.map λp:Nat×Q_×Nat×QV×List QY=>p.2.1) h;rw[List.map_map,List.map_map] at this;exact this
theorem BS.asked(Z:aX (Kk Kq)){ts0:List Zk}{P:QV->List Nat}(l:BS Kq ts ws)(Q:(ts.map (·.tb)).Nodup){t1:Zk}(x:ts[i]? =some t)(y:bg (Kk Kq) (Qq (Qj ts)) t.r)(F:t1.r= (Xx (Kk Kq) (Qq (Qj ts)) t.r).1)(R:t1.r.over=false)(hv:t1.r.Zq≠0)(a0:t1.tb=t.tb)(S:t1.op=t.op/\t1.bl=t.bl/\t1.qs=t.qs++(Xx (Kk Kq) (Qq (Qj ts)) t.r).2.map Value.string)(a1:(ts0.map λt=>(t.tb,t.r,t.op,t.bq))= ((ts.set i t1).map λt=>(t.tb,t.r,t.op,t.bq)))(a2:d_ (Qj ts'))(C:(ts'.map (·.tb)).Nodup){A:gu}(hA:Kk Kq t.r.name=some A)(a7:(Xx (Kk Kq) (Qq (Qj ts)) t.r).2= (stepOf A t1.r.at').asks)(n:pW Kq ts0 ws t.tb (Xx (Kk Kq) (Qq (Qj ts)) t.r).2 (Xx (Kk Kq) (Qq (Qj ts)) t.r).2 ts' P):
  BS Kq ts' P/\Qq (Qj ts')=doX (Kk Kq) (Qq (Qj ts)) t.r.name:=by
 have G:t∈ts:=PP x;obtain⟨h1,h2,T⟩:=l.self G y;have a8:(Qj ts)[i]? =some t.r:=by unfold Qj;rw[List.getElem?_map,x];rfl
 have a9:i<ts.length:=(PG.1 x).1;have a3:t1.r.name=t.r.name:=by rw[F,dz]
 have b0:Qj ts0= (Qj ts).set i t1.r:=by rw[Gi a1,qF a9]
 have M:Qq (Qj ts) t.r.name=some t.r:=bO l.good.asc (Qu G);have a4:∀p,Qq (Qj ts0) p=if p=t.r.name then some t1.r else Qq (Qj ts) p:=λp=>by rw[b0];exact BX l.good.asc a8 a3 p
 have U:Qq (Qj ts')=doX (Kk Kq) (Qq (Qj ts)) t.r.name:=by
  funext p
  rw[n.env p,a4,eD M,F];by_cases e:p=t.r.name
  .rw[QI e,QI e]
  .rw[QJ e,QJ e];cases Qq (Qj ts) p<;>rfl
 have hg:=l.good.good t.r (Qu G);have hw:(Kk Kq t.r.name).isSome=true:=by rw[hA];rfl
 have a5:∀H:Q_,pend (Kk Kq) (Qq (Qj ts')) H=pend (Kk Kq) (Qq (Qj ts)) H:=λH=>by
  rw[U,GV M y.1 hw,<-F,QJ (by rw[R];simp)]
 have a6:pend (Kk Kq) (Qq (Qj ts')) t1.r=lG Kq ts0 (Xx (Kk Kq) (Qq (Qj ts)) t.r).2:=by
  unfold pend lG;rw[QJ (by rw[R];simp[hv]),a3,hA];simp only;rw[a7]
  congr 1
  funext a
  rw[n.ans a]
 obtain⟨t0,b1,tm,D,e1,z,e3,e4,e5⟩:=n.me;obtain⟨V,b2⟩:=Jp a1;have q:tm.r=t1.r/\t0.op=0/\tm.bl=t.bl/\tm.qs=t1.qs:=by
  obtain⟨v,d,h,c,m,N⟩:=V t0 b1;rcases wY x Q v d with rfl|⟨_,g4⟩
  .exact⟨by rw[e3,<-c],by rw[<-m,S.1,h1],(congrArg Prod.fst (e5.trans N.symm)).trans S.2.1,congrArg Prod.snd (e5.trans N.symm)⟩
  .exact QK (h.trans e1) g4
 have old:∀u∈ts',u.tb≠t.tb->(∃v∈ts,v.tb=u.tb/\v.r=u.r/\v.op=u.op/\v.bq=u.bq)\/(u.r=Q_.fresh u.r.name/\(u.op=0/\u.bq= (⟨#[]⟩,[]))/\Qq (Qj ts) u.r.name=none):=λu j O=>by
  rcases n.other u j O with⟨u0,I,h,c,m,N⟩|⟨h,c,m⟩
  .obtain⟨v,d,E,J,W,k5⟩:=V u0 I;rcases wY x Q v d with rfl|⟨k4,_⟩
   .exact QK (h.symm.trans (E.symm.trans a0)) O
   .exact .inl ⟨v,k4,E.trans h,J.trans c,W.trans m,k5.trans N⟩
  .refine .inr ⟨h,c,?_⟩;rw[a4] at m
   split at m
   .cases m
   .exact m
 have keep:∀v∈ts,v.tb≠t.tb->∃u∈ts',u.tb=v.tb/\u.r=v.r:=λv d O=>by
  obtain⟨u0,I,h,c,_⟩:=b2 v ((Cy x).2 v d O);obtain⟨u,j,E,J⟩:=n.old u0 I;exact⟨u,j,E.trans h,J.trans c⟩
 have X:∀s b,b∈P s↔b∈ws s\/(fu (lG Kq ts0 (Xx (Kk Kq) (Qq (Qj ts)) t.r).2) s=true/\b=t.tb):=λs b=>by
  rw[n.wt s]
  split
  .rename_i g;simp[g]
  .rename_i g;simp[g]
 refine⟨⟨⟨a2,λH K=>?_⟩,λu j=>?_,λs u j=>?_,λs=>?_,λs b hb=>?_,λu j=>?_,λu j=>?_⟩,U⟩
 rotate_right
 .rw[U];by_cases g:u.tb=t.tb
  .have:=rY C j D (g.trans z.symm);rw[this,q.1,q.2.2.2,F,S.2.2];exact ((l.qs t G).unit y).mono ⟨t.r,M,y⟩
  .rcases old u j g with⟨v,d,_,c,_,m⟩|⟨h,c,_⟩
   .rw[<-c,<-show v.qs=u.qs from congrArg Prod.snd m];exact (l.qs v d).mono ⟨t.r,M,y⟩
   .exact xQ.still (congrArg Prod.snd c.2) h
 rotate_right
 .by_cases g:u.tb=t.tb
  .have:=rY C j D (g.trans z.symm);rw[this,q.1,q.2.2.1];exact CE.still ((l.bl t G).open y.1) R
  .rcases old u j g with⟨v,d,_,c,_,m⟩|⟨h,c,_⟩
   .rw[<-c,<-show v.bl=u.bl from congrArg Prod.fst m];exact l.bl v d
   .exact CE.still (congrArg Prod.fst c.2) (by rw[h];rfl)
 .obtain⟨u,j,rfl⟩:=PX.1 K;by_cases g:u.tb=t.tb
  .have:=rY C j D (g.trans z.symm);rw[this,q.1,F];exact fK Z l.good.env hg y
  .rcases old u j g with⟨v,d,_,c,_⟩|⟨h,_,_⟩
   .rw[<-c];exact l.good.good v.r (Qu d)
   .have b3:(Kk Kq u.r.name).isSome=true:=by
     have w:=bO a2 K;rw[n.env] at w;rcases n.other u j g with⟨u0,I,E,J,_⟩|⟨_,_,W⟩
     .obtain⟨v,d,B,L,_⟩:=V u0 I;rcases wY x Q v d with rfl|⟨m4,_⟩
      .exact QK (E.symm.trans (B.symm.trans a0)) g
      .obtain⟨b4,hB,_⟩:=(l.good.good v.r (Qu m4)).act;rw[<-J,<-L,hB];rfl
     .rw[W] at w;simp only at w
      split at w
      .rename_i h6;exact h6.2
      .cases w
    rw[h];exact iD Z b3
 .by_cases g:u.tb=t.tb
  .have:=rY C j D (g.trans z.symm);rw[this,q.1,a6,e4,q.2.1,Qb]
  .rw[a5];rcases old u j g with⟨v,d,_,c,m,_⟩|⟨h,c,_⟩
   .rw[<-c,<-m];exact l.op v d
   .rw[h,c.1,nZ];rfl
 .by_cases g:u.tb=t.tb
  .have:=rY C j D (g.trans z.symm);rw[this,q.1,a6,X,z,dh];exact⟨λk=>by rcases k with k|k;exact QK k (T s);exact k.1,λk=>.inr ⟨k,rfl⟩⟩
  .rw[a5,X];rcases old u j g with⟨v,d,h,c,m⟩|⟨h,c,m⟩
   .rw[<-h,<-c,<-l.wt s v d];exact⟨λk=>by rcases k with k|⟨_,k⟩;exact k;exact QK (h.symm.trans k) g,.inl⟩
   .rw[h,nZ];simp only[Qs,iff_false];rintro (k|⟨_,k⟩)
    .obtain⟨v,d,B⟩:=l.ww s u.tb k;obtain⟨u2,Y,L,m3⟩:=keep v d λe=>g (B.symm.trans e);have:=rY C j Y (B.symm.trans L.symm);have w:=bO l.good.asc (Qu (f:=λt:Zk=>t.r) d);rw[<-m3,<-this,m] at w;cases w
    .exact g k
 .rw[n.wt s]
  split
  .rw[List.nodup_append];exact⟨l.wn s,A9,λH K b5 hy e=>by rw[PI] at hy;rw[e,hy] at K;exact T s K⟩
  .exact l.wn s
 .rcases (X s b).1 hb with k|⟨_,k⟩
  .obtain⟨v,d,B⟩:=l.ww s b k;by_cases g:v.tb=t.tb
   .exact QK k (by rw[<-B,g];exact T s)
   .obtain⟨u2,Y,L,_⟩:=keep v d g;exact⟨u2,Y,L.trans B⟩
  .exact⟨tm,D,z.trans k.symm⟩
def jW(wz:QX):Prop:=∀(W:QX)(give:QV)(a:QW)(cap:Nat)(l:List QV),K_ wz W->give.size<=maxLen->l.length<=maxLen->Strs W a l->l.length<=cap->Calls prog 148 #[.string give,.slice a l.length cap] W λe w'=>e=.returned (.string (pJ give l))/\K_ W w'
theorem JH(w:QX)(tb:Nat)(v:Int)(a:w.cell? ⟨tb,5,none⟩=some (.b v)):
  Calls prog 89 #[.h tb] w λe w'=>Says e (v=20)/\w'=w:=by
 go_enter func89,ntmps89
 go_wp2
 go_ret
 exact⟨by simp[Says],rfl⟩
theorem rR{W:bf}{σ:Env}{r:Q_}{A:gu}(h:bg W σ r)(c:W r.name=some A)(d:r.Zq≠0):∃xs,Yz W σ (stepOf A r.at').asks=some xs:=by
 rcases h.2 with h|⟨f,xs,b,e⟩
 .exact QK h d
 .rw[c] at b;cases b;exact⟨xs,e⟩
variable {Kq:List Qz}{ts:List Zk}
theorem BS.OG{ws:QV->List Nat}(h:BS Kq ts ws)(s:QV):(ws s).length<=ts.length:=by
 have b:=List.Nodup.length_le_of_subset (h.wn s) (l₂:=ts.map (·.tb)) (λc d=>by
  obtain⟨t,f,e⟩:=h.ww s c d;exact PX.2 ⟨t,f,e⟩)
 simpa using b
variable {t:Zk}
theorem BS.waiters(n:aX (Kk Kq)){ws:QV->List Nat}(h:BS Kq ts ws)(_hn:(ts.map (·.tb)).Nodup){i:Nat}(d:ts[i]? =some t)(p:bg (Kk Kq) (Qq (Qj ts)) t.r):∀b∈ws t.r.name,∃(j:Nat)(u:Zk),j≠i/\ts[j]? =some u/\u.tb=b/\1<=u.op/\u.op<=1000:=λb e=>by
 obtain⟨u,c,f⟩:=h.ww _ b e;obtain⟨_,_,q⟩:=h.self (PP d) p;obtain⟨j,k,rfl⟩:=PN c;have s:=(h.wt t.r.name ts[j] c).1 (by rw[f];exact e);have l:=h.op ts[j] c;refine⟨j,ts[j],λv=>?_,PE k,f,?_,?_⟩
 .subst v;rw[PE k] at d;cases d;exact q _ (by rw[f];exact e)
 .rw[l];exact List.length_pos_of_mem s
 .rw[l];obtain⟨A,m,w,x⟩:=(h.good.good ts[j].r (Qu c)).act;have y:=(jU (n _ _ m).1 w x).1;unfold pend
  split
  .exact Py _
  .rw[m];simp only;have:=List.length_filter_le (λa=>(bI (Kk Kq) (Qq (Qj ts)) a).isNone) (stepOf A ts[j].r.at').asks;omega
structure vP (Kq:List Qz)(σ:Env)(t t2:Zk):Prop where
 nx:Xx (Kk Kq) σ t.r= (if (stepOf ⟨t.cost,t.steps⟩ t2.r.at').fin=true then {t2.r with over:=true,fail:=(stepOf ⟨t.cost,t.steps⟩ t2.r.at').bad,text:=pJ (stepOf ⟨t.cost,t.steps⟩ t2.r.at').give t2.r.texts} else t2.r,(stepOf ⟨t.cost,t.steps⟩ t2.r.at').asks)
 lo:0<=t2.r.at'
 hi:t2.r.at' < t.steps.length
 ov:t2.r.over=false
 vi:t2.r.Zq≠0
 nm:t2.r.name=t.r.name
theorem vP.first{σ:Env}{t1:Zk}(a:t1= {t with r:={t.r with Zq:=t.r.Zq+1}})(b:t.r.Zq=0)(c:Kk Kq t.r.name=some ⟨t.cost,t.steps⟩)(d:bg (Kk Kq) σ t.r)(e:0<=t.r.at')(f:t.r.at' < t.steps.length):vP Kq σ t t1:=by
 subst a;refine⟨?_,e,f,d.1,by show t.r.Zq+1≠0;omega,rfl⟩;unfold Xx;rw[c];simp only;rw[QI b]
 rfl
variable {xs:List Xz}
theorem JP{σ:Env}(a:Kk Kq t.r.name=some ⟨t.cost,t.steps⟩)(b:t.r.Zq≠0)(e:t.r.Zq<20)(c:Yz (Kk Kq) σ (stepOf ⟨t.cost,t.steps⟩ t.r.at').asks=some xs)(d:(fV (stepOf ⟨t.cost,t.steps⟩ t.r.at') xs).over=true):Xx (Kk Kq) σ t.r= ({t.r with Zq:=t.r.Zq+1,over:=true,fail:=true,text:=(fV (stepOf ⟨t.cost,t.steps⟩ t.r.at') xs).text},[]):=by
 unfold Xx;rw[a];simp only;rw[QJ b,c];simp only;rw[QJ A7,QI d]
theorem vP.gone{a:Zk}(i:aX (Kk Kq))(j:fU Kq (Qj ts))(hgd:t.r.Good Kq)(b:Kk Kq t.r.name=some ⟨t.cost,t.steps⟩)(c:bg (Kk Kq) (Qq (Qj ts)) t.r)(k:t.r.Zq≠0)(q:t.r.Zq<20)(l:Yz (Kk Kq) (Qq (Qj ts)) (stepOf ⟨t.cost,t.steps⟩ t.r.at').asks=some xs)(m:(fV (stepOf ⟨t.cost,t.steps⟩ t.r.at') xs).over=false)(h2:a.r= {t.r with Zq:=t.r.Zq+1,at':=(fV (stepOf ⟨t.cost,t.steps⟩ t.r.at') xs).at',texts:=t.r.texts++bD xs}):vP Kq (Qq (Qj ts)) t a:=by
 have d:Xx (Kk Kq) (Qq (Qj ts)) t.r= (if (stepOf ⟨t.cost,t.steps⟩ a.r.at').fin=true then {a.r with over:=true,fail:=(stepOf ⟨t.cost,t.steps⟩ a.r.at').bad,text:=pJ (stepOf ⟨t.cost,t.steps⟩ a.r.at').give a.r.texts} else a.r,(stepOf ⟨t.cost,t.steps⟩ a.r.at').asks):=by
  unfold Xx;rw[b];simp only;rw[QJ k,l];simp only;rw[QJ A7,QJ (by rw[m];simp),h2]
  rfl
 have n:=(fK i j.env hgd c).act;obtain⟨s,e,f,h⟩:=n;rw[dz,b] at e;cases e;have p:(Xx (Kk Kq) (Qq (Qj ts)) t.r).1.at'=a.r.at':=by rw[d];simp only;split<;>rfl
 rw[p] at f h;exact⟨d,f,h,by rw[h2];exact c.1,by rw[h2];show t.r.Zq+1≠0;have:=hgd.lo;omega,by rw[h2]⟩
theorem pI{W:bf}{σ b:Env}(h:∀a,bI W b a=bI W σ a):∀l,Yz W b l=Yz W σ l
 |[]=>rfl
 |a :: l=>by unfold Yz;rw[h a,pI h l]
theorem zV{i:Nat}{t1:Zk}(b:d_ (Qj ts))(c:ts[i]? =some t)(_ho:t.r.over=false)(d:t1= {t with r:={t.r with Zq:=t.r.Zq+1}}){l:List QV}:Yz (Kk Kq) (Qq (Qj (ts.set i t1))) l=Yz (Kk Kq) (Qq (Qj ts)) l:=by
 refine pI (λn=>?_) l;have h:i<ts.length:=(PG.1 c).1;have f:(Qj ts)[i]? =some t.r:=by unfold Qj;rw[List.getElem?_map,c];rfl
 unfold bI;cases Kk Kq n with
 |none=>rfl
 |some A=>
  simp only;rw[qF h,BX b f (by rw[d])];by_cases e:n=t.r.name
  .rw[QI e,e,bO b (PP f),d]
  .rw[QJ e]
variable {s:Xq}
theorem Fe(f:aX (Kk Kq))(v:∀y∈Kq,y.Fits)(a:Kk Kq t.r.name=some ⟨t.cost,t.steps⟩)(hgd:t.r.Good Kq)(w:bg (Kk Kq) (Qq (Qj ts)) t.r)(z:fU Kq (Qj ts))(A:t.r.Zq≠0)(b:s=stepOf ⟨t.cost,t.steps⟩ t.r.at')(c:Yz (Kk Kq) (Qq (Qj ts)) s.asks=some xs):
  s.Fits/\s.fin=false/\s.asks.length<=5/\(∀x∈s.asks,x.size<=20)/\(s.asks.length≠0->0<=s.on/\s.on<s.asks.length)/\yK s xs/\∀x∈xs,x.text.size<=200:=by
 obtain⟨J,i,B,d⟩:=hgd.act;rw[a] at i;cases i;have j:s.fin=false:=by rw[b];exact hgd.stp _ a w.1 A
 obtain⟨k,l⟩:=jU (f _ _ a).1 B d;rw[<-b] at k l;have m:∀x∈s.asks,x.size<=20:=λx c=>(l x c).2.1
 obtain⟨C,D⟩:=sD z.env m c;have E:=(f _ _ a).1.2.2 t.r.at'.toNat (by dsimp only at d⊢;omega);have F:lQ s t.steps.length:=by rw[b];exact E
 have G:=(F.2 j).1.2.2.2.2.2.2.2;refine⟨?_,j,k,m,λK=>?_,C,D⟩
 .obtain⟨H,n,_,_,e⟩:=iq a;simp only[gu.mk.injEq] at e;have I:=v _ (PL n);have p:s∈(Kq.getD H Qz.zero).steps:=by
   rw[b,<-e.2];unfold stepOf;dsimp only at d⊢;have q:t.r.at'.toNat<t.steps.length:=A7;simp only[List.getD,PE q,QL];exact PL q
  simp only[List.getD,PE n,QL] at p;exact I.each s p
 .rcases G with h|h
  .rw[h];omega
  .exact h
theorem step_ok{x:Int}(a:aX (Kk Kq))(b:Kk Kq t.r.name=some ⟨t.cost,t.steps⟩)(d:0<=x)(e:x<t.steps.length)(c:s=stepOf ⟨t.cost,t.steps⟩ x):lQ s t.steps.length:=by
 rw[c];exact (a _ _ b).1.2.2 x.toNat (by dsimp only;omega)
theorem zT{x:Int}(a:aX (Kk Kq))(b:Kk Kq t.r.name=some ⟨t.cost,t.steps⟩)(c:0<=x)(d:x<t.steps.length)(e:s=stepOf ⟨t.cost,t.steps⟩ x)(f:s.fin=true):s.asks=[]:=
 PQ.1 ((step_ok a b c d e).1 f).1
theorem wG{x:Int}(c:aX (Kk Kq))(d:Kk Kq t.r.name=some ⟨t.cost,t.steps⟩)(e:0<=x)(f:x<t.steps.length)(i:s=stepOf ⟨t.cost,t.steps⟩ x):s.asks.Nodup:=by
 have h:=step_ok c d e f i;cases a:s.fin with
 |true=>rw[PQ.1 (h.1 a).1];exact List.nodup_nil
 |false=>
  have j:=(h.2 a).1.2.2.2.1;rw[List.Nodup,PM];intro k l m b n p;have:=(j l b).2 k n;simp only[List.getD,PE m,PE b,QL] at this;exact this p
theorem Jb{x:Int}(d:∀y∈Kq,y.Fits)(f:Kk Kq t.r.name=some ⟨t.cost,t.steps⟩)(j:0<=x)(l:x<t.steps.length)(h:s=stepOf ⟨t.cost,t.steps⟩ x):s.give.size<=maxLen:=by
 obtain⟨k,a,_,_,e⟩:=iq f;simp only[gu.mk.injEq] at e;have i:=d _ (PL a);have b:s∈(Kq.getD k Qz.zero).steps:=by
  rw[h,<-e.2];unfold stepOf;dsimp only;have c:x.toNat<t.steps.length:=A7;simp only[List.getD,PE c,QL];exact PL c
 simp only[List.getD,PE a,QL] at b;exact (i.each s b).give
theorem IM{a:Zk}(c:aX (Kk Kq))(d:fU Kq (Qj ts))(hgd:t.r.Good Kq)(e:bg (Kk Kq) (Qq (Qj ts)) t.r)(h:vP Kq (Qq (Qj ts)) t a):a.r.texts.length<=1000:=by
 have b:=fK c d.env hgd e;have f:(Xx (Kk Kq) (Qq (Qj ts)) t.r).1.texts=a.r.texts:=by rw[h.nx];simp only;split<;>rfl
 have i:=b.tl;have j:=b.hi;rw[f] at i;omega
def OO(G:dm)(Kq:List Qz)(wz:QX)(bb:Nat)(a:QW)(cap:Nat)(rd:QW)(rn rc mb mx:Nat)(ts:List Zk)(d:QW)(dc:Nat)(f:QV->QY)(ws:QV->List Nat)(i:Nat)(t:Zk)(b:Bool)(w':QX):Prop:=
 (b=true/\∃ts' f' ws',BM G Kq wz w' bb a cap rd rn rc mb mx ts' d dc f' ws'/\BS Kq ts' ws'/\Qq (Qj ts')=doX (Kk Kq) (Qq (Qj ts)) t.r.name)\/
 (b=false/\∃t2,BM G Kq wz w' bb a cap rd rn rc mb mx (ts.set i t2) d dc f ws/\t2.tb=t.tb/\(t2.op=t.op/\t2.bl=t.bl/\t2.qs=t.qs)/\t2.cost=t.cost/\t2.steps=t.steps/\vP Kq (Qq (Qj ts)) t t2)
section
variable {G:dm}{Kq:List Qz}{wz w w':QX}{bb:Nat}{a:QW}{cap:Nat}{rd:QW}{rn rc:Nat}{mb mx:Nat}{ts:List Zk}{d:QW}{dc:Nat}{f:QV -> QY}{ws:QV -> List Nat}
theorem C_(hB:BM G Kq wz w bb a cap rd rn rc mb mx ts d dc f ws)(hS:BS Kq ts ws){i:Nat}(hi:ts[i]? =some t)(hc:bg (Kk Kq) (Qq (Qj ts)) t.r)(E:aX (Kk Kq))(e7:∀y∈Kq,y.Fits)(c2:Kq.length<=60)(j1:il Kq)(hN:dS wz a Kq)(m3:mx<=90000)(j2:jW wz):
  Calls prog 123 #[.h bb,.h t.tb] w λe w'=>e=.returned (.tuple #[])/\∃ts' d' c3 f' a1,BM G Kq wz w' bb a cap rd rn rc mb (mx+6) ts' d' c3 f' a1/\BS Kq ts' a1/\Qq (Qj ts')=doX (Kk Kq) (Qq (Qj ts)) t.r.name:=by
 have ht:t∈ts:=List.mem_of_getElem? hi;obtain⟨m4,j3,m5⟩:=hS.self ht hc;have hgd:=hS.good.good t.r (List.mem_map_of_mem ht);have hA:=(hB.act t ht).1;obtain⟨A',e8,f0,c4⟩:=hgd.act;rw[hA] at e8;cases e8;dsimp only at c4;have hT:=hB.at hi;have j4:w.cell? ⟨t.tb,5,none⟩=some (.b t.r.Zq):=hT.rng 5 _ rfl;have tz:=hT.row.lt;obtain⟨_,f1⟩:=hT.row.row.at (i:=5) A7;have lo:=hgd.lo;have m6:=hgd.hi;have m7:=hB.len c2;have f2:i<ts.length:=(List.getElem?_eq_some_iff.1 hi).1;have c5:=Kz (hS.waiters E hB.tbs hi hc);have m8:=hS.OG t.r.name;have c6:t.r.name.size<=1000:=by have:=(E _ _ hA).2.2.1;omega
 have⟨HB,q,F,A,x⟩:=fQ hB hS hi hc hA;have HG:=Kz hgd;clear hB hS hi hc hA hT hgd j3;go_enter func123,ntmps123
 go_wp2_with fail
 refine (JH w t.tb t.r.Zq j4).mono ?_;rintro e w0 ⟨c7,f3⟩;rw[f3];clear f3 w0;rcases c7.cases with⟨rfl,a9⟩|⟨rfl,a9⟩
 .have b7:=Kz a9;clear a9 c7;go_wp2_with fail
  refine (om HB.o F.o true ou c6 A7 (λb N=>?_) (q.o.wn _)).mono ?_
  .obtain⟨b0,u,W,b1,h3,h4,h5⟩:=c5.o b N;exact⟨b0,u,by rw[PT (Ne.symm W)];exact b1,h3,h4,h5⟩
  rintro e wF ⟨rfl,a2⟩;have d0:=Kz a2;clear a2;go_wp2_with fail
  refine bodyPost_ret (results_none rfl _ _ _) rfl ?_;obtain⟨xs,X⟩:=rR A.o x.o (by have:=b7.o;omega);have n:Xx (Kk Kq) (Qq (Qj ts)) t.r= ({t.r with over:=true,fail:=true,text:=ou},[]):=by
   unfold Xx;rw[x.o];simp only;rw[QJ (by have:=b7.o;omega),X];simp only;rw[QI b7.o]
  obtain⟨q1,q2⟩:=q.o.ended E HB.o.tbs (t':=t.ended true ou) F.o A.o (by rw[n];rfl) rfl (by rw[n]) rfl rfl (.inl ⟨(q.o.bl t (PP F.o)).open A.o.1,λ_ _=>.inl rfl⟩) rfl;exact⟨rfl,_,d,dc,_,_,d0.o.more A7,q1,q2⟩
 .have b7:=Kz a9;have f4:t.r.Zq<20:=A7;clear a9 c7;obtain⟨O,b8⟩:∃O:Zk,O= {t with r:={t.r with Zq:=t.r.Zq+1}}:=⟨_,rfl⟩;obtain⟨W1,d1⟩:=aj (w.setCell ⟨t.tb,5,none⟩ (.b (t.r.Zq+1)));have d2:Hid (BM G Kq wz W1 bb a cap rd rn rc mb mx (ts.set i O) d dc f ws):=by rw[d1,b8];exact HB.o.store F.o A7 rfl rfl rfl rfl rfl rfl rfl rfl rfl rfl
  have f5:Hid ((ts.set i O)[i]? =some O):=QF f2;go_upto_region 3 with fail
  rw[<-d1];clear d1;have j5:W1.cell? ⟨t.tb,5,none⟩=some (.b (t.r.Zq+1)):=by have h:=(d2.o.at f5.o).rng 5 _ rfl;rw[b8] at h;exact h
  have k:=Kz b8;clear b8;go_cut [30] from 19 to 29 λj6 wx=>∃b:Bool,j6=.bool b/\OO G Kq wz bb a cap rd rn rc mb mx ts d dc f ws i t b wx
  case first=>
   by_cases a3:t.r.Zq=0
   .have j7:¬(1:Int)<t.r.Zq+1:=A7;have j8:=Kz a3;clear a3;go_wp2
    go_meet
    exact⟨false,rfl,.inr ⟨rfl,O,d2.o,by rw[k.o],by rw[k.o];exact⟨rfl,rfl,rfl⟩,by rw[k.o],by rw[k.o],vP.first k.o j8.o x.o A.o f0 c4⟩⟩
   .have j7:(1:Int)<t.r.Zq+1:=A7;have d3:=Kz a3;obtain⟨xs,X⟩:=rR A.o x.o a3;obtain⟨s,H⟩:=aj (stepOf ⟨t.cost,t.steps⟩ t.r.at');rw[<-H] at X;obtain⟨hF,P,b2,f6,f7,f8,f9⟩:=Fe E e7 x.o HG.o A.o q.o.good a3 H X;have g0:Yz (Kk Kq) (Qq (Qj (ts.set i O))) s.asks=some xs:=by rw[zV q.o.good.asc F.o A.o.1 k.o];exact X
    have j9:t.r.texts.length<=1000:=by have:=HG.o.tl;omega
    have⟨g2,a4⟩:=aJ X H;have g3:=Kz (Ac d2.o (t:=O) f5.o s (by rw[k.o];exact H) (by rw[k.o];exact f0) (by rw[k.o];exact c4) P xs g0 f9 (lD f8) hF b2 f6 f7 c2 (by rw[k.o];exact j9) (by rw[k.o];exact c6) (by rw[k.o];show (ws t.r.name).length<=1000;omega) (λb N=>by
     rw[k.o] at N;obtain⟨b0,u,W,b1,h3,h4,h5⟩:=c5.o b N;exact⟨b0,u,W,by rw[PT (Ne.symm W)];exact b1,h3,h4,h5⟩) (by rw[k.o];exact q.o.wn _))
    have k0:Hid (O.tb=t.tb):=by rw[k.o];rfl
    rw[k0.o] at g3;clear a3 X H hF P b2 f6 f7 f8 f9 g0;go_wp2_with fail
    refine g3.o.mono ?_;rintro e B (⟨b3,rfl,bl,g4,b4⟩|⟨b3,rfl,m9,b4⟩)
    .have g5:=Kz g4;clear g4;have⟨d4,d5⟩:=aJ b4 b3;clear b4 b3;go_wp2
     go_meet
     have b5:=d4.o;rw[k.o,List.set_set] at b5;have n:=JP x.o d3.o f4 (by rw[<-a4.o];exact g2.o) (by rw[<-a4.o];exact d5.o);obtain⟨q1,q2⟩:=q.o.ended E HB.o.tbs (t':=(({t with bl:=bl,r:={t.r with Zq:=t.r.Zq+1}}:Zk).ended true (fV s xs).text)) F.o A.o (by rw[n,a4.o];rfl) rfl (by rw[n]) rfl rfl (.inr ⟨rfl,rfl,⟨⟨t.cost,t.steps⟩,x.o,HG.o.stp _ x.o A.o.1 d3.o,by have h:=g5.o.1;rw[k.o] at h;exact h⟩,g5.o.2⟩) rfl;exact⟨true,rfl,.inl ⟨rfl,_,_,_,b5,q1,q2⟩⟩
    .have d4:=Kz b4;have d5:=Kz b3;clear b4 b3;go_wp2
     go_meet
     have b5:=d4.o;rw[k.o,List.set_set] at b5;exact⟨false,rfl,.inr ⟨rfl,_,b5,rfl,⟨rfl,rfl,rfl⟩,rfl,rfl,vP.gone E q.o.good HG.o x.o A.o d3.o f4 (by rw[<-a4.o];exact g2.o) (by rw[<-a4.o];exact d5.o) (by rw[<-a4.o])⟩⟩
  case rest=>
   obtain⟨b,rfl,hm⟩:=hcut;obtain⟨B,rfl⟩:=aj wc;rcases hm with⟨rfl,ts',f',a1,g6,g7,g8⟩|⟨rfl,c,D,e1,e2,k1,d6,Q⟩
   .have k2:=Kz g6;have⟨k3,k4⟩:=aJ g7 g8;clear g6 g7 g8;go_wp2_with fail
    refine bodyPost_ret (results_none rfl _ _ _) rfl ?_;exact⟨rfl,ts',d,dc,f',a1,k2.o.more A7,k3.o,k4.o⟩
   have b9:(ts.set i c)[i]? =some c:=QF f2;have c0:=D.at b9;have g9:=D.act c (PP b9);obtain⟨j,d7⟩:∃j:Nat,c.r.at'= (j:Int):=⟨c.r.at'.toNat,by have:=Q.lo;omega⟩;have k5:j<c.steps.length:=by have:=Q.hi;rw[d6];omega
   obtain⟨l,p,cs,h1,R,L,S,T,Y,Z,rfl,d8,h2,_⟩:=g9.2 j k5;obtain⟨s,H⟩:=aj (stepOf ⟨t.cost,t.steps⟩ c.r.at');have h6:c.steps.getD j Xq.zero=s:=by rw[H,d6];unfold stepOf;rw[d7];rfl
   rw[h6] at L d8 h2;have c8:B.cell? ⟨t.tb,8,none⟩=some (.slice c.sa c.steps.length c.sc):=by rw[<-e1];exact c0.rng 8 _ rfl
   have d9:B.cell? ⟨t.tb,4,none⟩=some (.b c.r.at'):=by rw[<-e1];exact c0.rng 4 _ rfl
   rw[h1] at c8;rw[d7] at d9;have h7:t.tb<B.heap.size:=by rw[<-e1];exact c0.row.lt
   have V:l<B.heap.size:=Px R D.kw.size;have y0:B.cell? ⟨l,p+j*8,none⟩=some (.slice S s.asks.length T):=(D.kw.cell R).trans (L 0 _ rfl);have y1:B.cell? ⟨l,p+j*8+1,none⟩=some (.b s.on):=(D.kw.cell R).trans (L 1 _ rfl);have y2:B.cell? ⟨l,p+j*8+2,none⟩=some (.slice Y s.cases.length Z):=(D.kw.cell R).trans (L 2 _ rfl);have y3:B.cell? ⟨l,p+j*8+3,none⟩=some (.b s.els):=(D.kw.cell R).trans (L 3 _ rfl);have y4:B.cell? ⟨l,p+j*8+4,none⟩=some (.b s.fall):=(D.kw.cell R).trans (L 4 _ rfl);have y5:B.cell? ⟨l,p+j*8+5,none⟩=some (.bool s.fin):=(D.kw.cell R).trans (L 5 _ rfl);have y6:B.cell? ⟨l,p+j*8+6,none⟩=some (.bool s.bad):=(D.kw.cell R).trans (L 6 _ rfl);have y7:B.cell? ⟨l,p+j*8+7,none⟩=some (.string s.give):=(D.kw.cell R).trans (L 7 _ rfl);have h8:Hid (∀w',K_ B w'->w'.cell? ⟨t.tb,8,none⟩=some (.slice (some ⟨l,p,none⟩) c.steps.length c.sc)/\w'.cell? ⟨t.tb,4,none⟩=some (.b (j:Int))/\w'.cell? ⟨l,p+j*8,none⟩=some (.slice S s.asks.length T)/\w'.cell? ⟨l,p+j*8+1,none⟩=some (.b s.on)/\w'.cell? ⟨l,p+j*8+2,none⟩=some (.slice Y s.cases.length Z)/\w'.cell? ⟨l,p+j*8+3,none⟩=some (.b s.els)/\w'.cell? ⟨l,p+j*8+4,none⟩=some (.b s.fall)/\w'.cell? ⟨l,p+j*8+5,none⟩=some (.bool s.fin)/\w'.cell? ⟨l,p+j*8+6,none⟩=some (.bool s.bad)/\w'.cell? ⟨l,p+j*8+7,none⟩=some (.string s.give)):=λw' K=>⟨(K.cell h7).trans c8,(K.cell h7).trans d9,(K.cell V).trans y0,(K.cell V).trans y1,(K.cell V).trans y2,(K.cell V).trans y3,(K.cell V).trans y4,(K.cell V).trans y5,(K.cell V).trans y6,(K.cell V).trans y7⟩
   have⟨i0,a5,k7,M,a6⟩:=fQ D b9 d8 Q H;have⟨a0,E2⟩:=aJ e1 e2;have n0:(j:Int)<(c.steps.length:Int):=A7;obtain⟨g1,i1⟩:=jU (E _ _ x.o).1 Q.lo (by exact Q.hi);rw[<-H] at g1 i1;have k8:s.give.size<=maxLen:=Jb e7 x.o Q.lo Q.hi H;have n1:c.r.texts.length<=1000:=IM E q.o.good HG.o A.o Q;clear D b9 c0 g9 h1 L d8 h2 h6 c8 d9 y0 y1 y2 y3 y4 y5 y6 y7 Q d7 H e1 e2 k1 d6 j5;go_upto_region 4 with fail
   refine bG 13 h8.o λU KD I=>?_
   refine ax 0 I ?_;refine ax 4 I ?_;refine ax 8 I ?_;refine au 12 λK J=>?_;go_simp
   have K2:K_ U (U.alloc (.cells #[J6,.b 0,J6,.b 0,.b 0,.bool false,.bool false,.string ⟨#[]⟩] 146)):=ai _ _;have C:aH (U.alloc (.cells #[J6,.b 0,J6,.b 0,.b 0,.bool false,.bool false,.string ⟨#[]⟩] 146)) U.heap.size 146 8:=aH.made U _ _;have KE:=KD.trans K2;have nz:=KD.size;obtain⟨z,i2⟩:=aj U.heap.size;refine J.out _ _ (λ_=>h8.o _ KE) ?_;clear J K I;rw[<-i2] at C nz⊢;generalize k9:U.alloc (.cells #[J6,.b 0,J6,.b 0,.b 0,.bool false,.bool false,.string ⟨#[]⟩] 146)=wE at C KE⊢;clear k9 K2 i2;try simp only[upP]
   obtain⟨⟨_,v0⟩,l0⟩:=C.row.at (i:=0) A7;obtain⟨⟨_,v1⟩,l1⟩:=C.row.at (i:=1) A7;obtain⟨⟨_,v2⟩,l2⟩:=C.row.at (i:=2) A7;obtain⟨⟨_,v3⟩,l3⟩:=C.row.at (i:=3) A7;obtain⟨⟨_,v4⟩,l4⟩:=C.row.at (i:=4) A7;obtain⟨⟨_,v5⟩,f1⟩:=C.row.at (i:=5) A7;obtain⟨⟨_,v6⟩,l5⟩:=C.row.at (i:=6) A7;obtain⟨⟨_,v7⟩,l6⟩:=C.row.at (i:=7) A7;have vz:=C.lt;refine au 13 λK J=>?_;go_simp
   refine af J (λh=>QK rfl h) ?_;clear J K;refine aF ?_;have b6:=Kz (PD wE z 0 [.slice S s.asks.length T,.b s.on,.slice Y s.cases.length Z,.b s.els,.b s.fall,.bool s.fin,.bool s.bad,.string s.give] (C.row.there (o:=0) (m:=8) (Pw _)));have e0:=Kz (dL (g:=z) nz [.slice S s.asks.length T,.b s.on,.slice Y s.cases.length Z,.b s.els,.b s.fall,.bool s.fin,.bool s.bad,.string s.give] 0 KE);have i3:=Kz (aH.sets [.slice S s.asks.length T,.b s.on,.slice Y s.cases.length Z,.b s.els,.b s.fall,.bool s.fin,.bool s.bad,.string s.give] 0 C);obtain⟨w5,e3⟩:=aj (wE.setCells z 0 [.slice S s.asks.length T,.b s.on,.slice Y s.cases.length Z,.b s.els,.b s.fall,.bool s.fin,.bool s.bad,.string s.give]);rw[<-e3] at b6 e0 i3;go_upto_region 5 with fail
   have i4:((((((((wE.setCell ⟨z,0,none⟩ (.slice S s.asks.length T)).setCell ⟨z,1,none⟩ (.b s.on)).setCell ⟨z,2,none⟩ (.slice Y s.cases.length Z)).setCell ⟨z,3,none⟩ (.b s.els)).setCell ⟨z,4,none⟩ (.b s.fall)).setCell ⟨z,5,none⟩ (.bool s.fin)).setCell ⟨z,6,none⟩ (.bool s.bad)).setCell ⟨z,7,none⟩ (.string s.give))=w5:=by rw[e3];rfl
   rw[i4];clear i4 e3 v0 v1 v2 v3 v4 v5 v6 v7 l0 l1 l2 l3 l4 f1 l5 l6 vz C KE nz KD;have a7:=Kz (i0.o.kept e0.o);have q5:w5.cell? ⟨z,5,none⟩=some (.bool s.fin):=b6.o 5 _ rfl;have gz:=i3.o.lt;cases P:s.fin
   .rw[P] at q5;have n2:w5.cell? ⟨z,0,none⟩=some (.slice S s.asks.length T):=b6.o 0 _ rfl;have i5:=Kz (Cm a7.o a5.o S T s.asks g1 (λl7 hx=>(i1 l7 hx).2.1) (wG E x.o M.o.lo M.o.hi a6.o) k7.o A7 c2 j1 hN (λs' b N=>?_) (λs'=>by have:=q.o.OG s';omega) (by rw[E2.out.1];omega));rotate_left
    .obtain⟨v,hv,e⟩:=q.o.ww s' b N;by_cases g:v.tb=t.tb
     .exact⟨c,(Cy F.o).1,by rw[a0.out,<-g,e]⟩
     .exact⟨v,(Cy F.o).2 v hv g,e⟩
    rw[a0.out] at i5;go_wp2_with fail
    refine i5.o.mono ?_;rintro e w6 ⟨rfl,l8,ts',d',c3,f',a1,b2,i6,i7⟩;have⟨e4,l9,m0⟩:=dC i6 i7 b2;clear i6 i7 b2;go_wp2
    go_end0
    have n:=M.o.nx;rw[<-a6.o,P] at n;simp only[Bool.false_eq_true,if_false] at n;obtain⟨z1,z2⟩:=q.o.asked E HB.o.tbs (ts0:=l8) (t1:={c with qs:=c.qs++s.asks.map Value.string}) F.o A.o (by show c.r=_;rw[n]) M.o.ov M.o.vi a0.out ⟨E2.out.1,E2.out.2.1,by show c.qs++_=_;rw[n,E2.out.2.2]⟩ (by have h:=m0.o;rw[List.set_set] at h;exact h) e4.o.asc e4.o.tbs x.o (by show _= (stepOf _ c.r.at').asks;rw[n,a6.o]) (by have h:=l9.o;rw[a0.out] at h;rw[n];exact h);exact⟨rfl,ts',d',c3,f',a1,e4.o,z1,z2⟩
   .rw[P] at q5;have i8:Hid (∀w',K_ w5 w'->w'.cell? ⟨z,6,none⟩=some (.bool s.bad)/\w'.cell? ⟨z,7,none⟩=some (.string s.give)/\w'.cell? ⟨t.tb,6,none⟩=some (c.tv)):=λw' K=>⟨(K.cell gz).trans (b6.o 6 _ rfl),(K.cell gz).trans (b6.o 7 _ rfl),by rw[<-a0.out];exact ((a7.o.kept K).at a5.o).rng 6 _ rfl⟩
    obtain⟨ta,tc,c1⟩:=aG (a7.o.at a5.o).txt;have m1:=Kz c1;have i9:Hid (c.r.texts.length<=tc/\∀e5,K_ w5 e5->Strs e5 ta c.r.texts):=by
     refine⟨?_,λe5 K=>?_⟩
     .have j0:=(a7.o.at a5.o).txt;rw[c1] at j0;rcases j0.2 with⟨e,h0⟩|⟨g,cp,n3,e,_,_,n4,_⟩
      .omega
      .simp only[Qm] at e;omega
     .obtain⟨n5,c9,e9,h9⟩:=dV ((a7.o.kept K).at a5.o).txt;rw[c1] at e9;simp only[Qm] at e9;rw[e9.1];exact h9
    clear c1;go_upto_region 6 with fail
    refine bG 12 i8.o λU KD I=>?_
    refine ax 0 I ?_;refine ax 4 I ?_;refine ae 8 I ?_;refine ae 9 I ?_;refine ae 10 I ?_;refine aD 11 λK J=>?_;go_simp
    go_at_call 148
    rw[m1.o];refine (j2 U s.give ta tc c.r.texts (i0.o.kw.trans (e0.o.trans KD)) k8 D6 (i9.o.2 _ KD) i9.o.1).mono ?_;rintro e w6 ⟨rfl,k6⟩;have K6:=KD.trans k6;refine af J (λ_=>i8.o _ K6) ?_;clear J K I;refine aD 12 λK J=>?_;go_simp
    go_at_call 146
    have a8:=M.o.nm;have e6:=om (a7.o.kept K6) a5.o s.bad (pJ s.give c.r.texts) (by rw[a8];exact c6) (by rw[a8];omega) (λb N=>by
     rw[a8] at N;obtain⟨b0,u,W,b1,h3,h4,h5⟩:=c5.o b N;exact⟨b0,u,by rw[PT (Ne.symm W),PT (Ne.symm W)];exact b1,h3,h4,h5⟩) (by rw[a8];exact q.o.wn _)
    rw[a0.out,a8] at e6;refine e6.mono ?_;rintro e wF ⟨rfl,a2⟩;rw[List.set_set] at a2;have d0:=Kz a2;clear a2 e6 a8;refine af J (λh=>QK rfl h) ?_;clear J K;refine aF ?_;go_wp2_with fail
    refine bodyPost_ret (results_none rfl _ _ _) rfl ?_;have n:=M.o.nx;rw[<-a6.o,P] at n;simp only[if_true] at n;have m2:s.asks=[]:=zT E x.o M.o.lo M.o.hi a6.o P;obtain⟨z1,z2⟩:=q.o.ended E HB.o.tbs (t':=c.ended s.bad (pJ s.give c.r.texts)) F.o A.o (by rw[n];rfl) rfl (by rw[n];exact m2) a0.out E2.out.1 (.inl ⟨E2.out.2.1.trans ((q.o.bl t (PP F.o)).open A.o.1),λ_ _=>.inr ⟨⟨t.cost,t.steps⟩,by show Kk Kq c.r.name=_;rw[M.o.nm];exact x.o,by show (stepOf ⟨t.cost,t.steps⟩ c.r.at').fin=true;rw[<-a6.o];exact P⟩⟩) E2.out.2.2;exact⟨rfl,_,d,dc,_,_,d0.o.more A7,z1,z2⟩
end
theorem yE{l:List Qz}(h:bC l 0):il l:=by
 have a:¬je l:=by
  rcases h with⟨_,e⟩|⟨_,_,e⟩|⟨_,_,_,e⟩|⟨_,_,_,_,e⟩|⟨_,_,b,_,_⟩
  .omega
  .omega
  .omega
  .omega
  .exact b
 refine Dv λi c=>?_
 cases d:Op.bytesLess (nameAt l i) (nameAt l (i+1))
 .exact QK ⟨i,c,d⟩ a
 .rfl
structure BR (Kq:List Qz)(L:List QV)(ts:List Zk):Prop where
 env:∀n,Qq (Qj ts) n=if fu L n=true/\(Kk Kq n).isSome=true then some (Q_.fresh n) else none
 fr:∀t∈ts,t.r=Q_.fresh t.r.name/\t.op=0/\t.bq= (⟨#[]⟩,[])
theorem BR.nil(Kq:List Qz):BR Kq [] []:=⟨λn=>by rw[QJ (by simp[fu])];rfl,λt h=>by cases h⟩
variable {Kq:List Qz}
theorem BR.want{L:List QV}{ts ts':List Zk}{n:QV}(h:BR Kq L ts)(B:d_ (Qj ts))(l:d_ (Qj ts'))(d:Lp Kq ts n ts'):BR Kq (L++[n]) ts':=by
 have e:∀m,fu (L++[n]) m=true↔fu L m=true\/m=n:=λm=>by simp[dh]
 rcases d with⟨rfl,d⟩|⟨p,new,rfl,k,q,C,s⟩
 .refine⟨λm=>?_,h.fr⟩;rw[h.env m];by_cases a:fu L m=true/\(Kk Kq m).isSome=true
  .rw[QI a,QI ⟨(e m).2 (.inl a.1),a.2⟩]
  .rw[QJ a,QJ];rintro⟨c,f⟩;rcases (e m).1 c with g|g
   .exact a ⟨g,f⟩
   .subst g;rcases d with d|⟨t,v,i⟩
    .rw[d] at f;cases f
    .have:=h.env m;rw[QJ a] at this;exact jF.1 this t v i
 .have j:∀u,u∈ts.take p++new :: ts.drop p↔u=new\/u∈ts:=λu=>by
   rw[PK,Qr];constructor
   .rintro (h|h|h)
    .exact .inr (List.mem_of_mem_take h)
    .exact .inl h
    .exact .inr (List.mem_of_mem_drop h)
   .rintro (h|h)
    .exact .inr (.inl h)
    .rw[<-QB p ts] at h;rcases PK.1 h with h|h
     .exact .inl h
     .exact .inr (.inr h)
  refine⟨λm=>?_,λu b=>?_⟩
  .by_cases i:m=n
   .subst i;rw[QI ⟨(e m).2 (.inr rfl),s⟩];have:=bO l (r:=new.r) (Qu ((j new).2 (.inl rfl)));rw[k] at this;exact this
   .have w:Qq (Qj (ts.take p++new :: ts.drop p)) m=Qq (Qj ts) m:=by
     cases c:Qq (Qj ts) m with
     |some x=>
      obtain⟨y,z⟩:=bA c;obtain⟨u,b,rfl⟩:=PX.1 y;have:=bO l (r:=u.r) (Qu ((j u).2 (.inr b)));rw[z] at this;exact this
     |none=>
      rw[jF] at c⊢;intro u b;rcases (j u).1 b with rfl|b
      .rw[k];exact λA=>i A.symm
      .exact c u b
    rw[w,h.env m];by_cases a:fu L m=true/\(Kk Kq m).isSome=true
    .rw[QI a,QI ⟨(e m).2 (.inl a.1),a.2⟩]
    .rw[QJ a,QJ];rintro⟨c,f⟩;rcases (e m).1 c with g|g
     .exact a ⟨g,f⟩
     .exact i g
  .rcases (j u).1 b with rfl|b
   .exact⟨by rw[k];rfl,q⟩
   .exact h.fr u b
theorem BR.done{Kj:List QV}{ts:List Zk}(h:BR Kq Kj ts)(i:aX (Kk Kq))(f:d_ (Qj ts)):BS Kq ts (λ_=>[])/\Qq (Qj ts)=Qq (b_ Kq Kj):=by
 refine⟨⟨⟨f,λr j=>?_⟩,λt b=>?_,λs t b=>?_,λ_=>List.nodup_nil,λs p l=>(by cases l),λt b=>CE.still (congrArg Prod.fst (h.fr t b).2.2) (by rw[(h.fr t b).1];rfl),λt b=>xQ.still (congrArg Prod.snd (h.fr t b).2.2) (h.fr t b).1⟩,?_⟩
 .have d:=bO f j;rw[h.env] at d
  split at d
  .rename_i e
   have m:Q_.fresh r.name=r:=Qv d;rw[<-m];exact iD i e.2
  .cases d
 .obtain⟨d,e⟩:=h.fr t b;rw[d,nZ,e.1]
  rfl
 .obtain⟨d,_⟩:=h.fr t b;rw[d,nZ];simp
 .funext n
  rw[h.env n,ik]
theorem BM.begun{b:QX}{a:QW}{cap:Nat}{rd:QW}{rn rc:Nat}(d:aH ((b.alloc (.map #[] 0)).alloc (.cells #[.slice a Kq.length cap,.func (.func 82) #[] #[],.slice rd rn rc,J6,.func (.func 41) #[] #[],.map (some b.heap.size)] 106)) (b.heap.size+1) 106 6)(c:((b.alloc (.map #[] 0)).alloc (.cells #[.slice a Kq.length cap,.func (.func 82) #[] #[],.slice rd rn rc,J6,.func (.func 41) #[] #[],.map (some b.heap.size)] 106)).rangeAt (b.heap.size+1) 0 [.slice a Kq.length cap,.func (.func 82) #[] #[],.slice rd rn rc,J6,.func (.func 41) #[] #[],.map (some b.heap.size)]):
  BM (dm.no b) Kq b ((b.alloc (.map #[] 0)).alloc (.cells #[.slice a Kq.length cap,.func (.func 82) #[] #[],.slice rd rn rc,J6,.func (.func 41) #[] #[],.map (some b.heap.size)] 106)) (b.heap.size+1) a cap rd rn rc b.heap.size 0 [] none 0 (λ_=>.slice none 0 0) (λ_=>[]):=
 ⟨(ai _ _).alloc _,d,c 0 _ rfl,c 1 _ rfl,c 2 _ rfl,c 3 _ rfl,c 4 _ rfl,c 5 _ rfl,Nat.le_succ _,Qt _ _ _ _,λt h=>(by cases h),λt h=>(by cases h),List.Pairwise.nil,List.nodup_nil,List.Pairwise.nil,λt h=>(by cases h),⟨0,.map [],Pw _,(World.ownsMap_made b prog 9 asIs).alloc _,λs _=>rfl⟩,Pw _,λs=>Qt _ _ _ _,λs e _ x h=>(by cases h),λs x h=>(by cases h),λt h=>(by cases h),Fen.no (by simp only[Qh];omega),λ_ h=>(by cases h)⟩
def OB(Kq:List Qz)(Kj:List QV)(a:QW)(cap:Nat)(rd:QW)(rc:Nat)(w w':QX)(e:Ending):Prop:=
 K_ w w'/\((¬(bC Kq 0/\fJ Kj)/\e=.returned (.tuple #[.pointer none,.bool false]))\/
  (bC Kq 0/\fJ Kj/\∃wz bb mb ts d dc,e=.returned (.tuple #[.h bb,.bool true])/\K_ w wz/\BM (dm.no wz) Kq wz w' bb a cap rd Kj.length rc mb 0 ts d dc (λ_=>.slice none 0 0) (λ_=>[])/\BS Kq ts (λ_=>[])/\Qq (Qj ts)=Qq (b_ Kq Kj)))
theorem Fx(w:QX)(a:QW)(cap:Nat)(Kq:List Qz)(rd:QW)(rc:Nat)(Kj:List QV)(R:Kq.length<=1048576)(S:∀s∈Kq,s.Fits)(T:Kj.length<=maxLen)(U:Kj.length<=rc)(V:∀s∈Kj,s.size<=maxLen)(K:dS w a Kq)(L:Strs w rd Kj):
  Calls prog 18 #[.agg #[.slice a Kq.length cap],.slice rd Kj.length rc] w λe w'=>OB Kq Kj a cap rd rc w w' e:=by
 have W:Kq.length<=maxLen:=D6;go_enter func18,ntmps18
 go_wp2_with fail
 refine (uq MZ _ a cap Kq W S (K.kept F5)).mono ?_;rintro e w1 ⟨⟨c,rfl,f⟩,l⟩;have m:K_ w w1:=K_.trans (ai _ _) l;have X:=l.size;simp only[Qh] at X;have M:=DC (w:=w) l;have h:=Kz f;clear f l;have Y:w.heap.size<w1.heap.size:=A7;by_cases x:c=0
 .subst x;go_wp2_with fail
  refine (yt _ rd rc Kj T U V (L.kept m)).mono ?_;rintro e Z ⟨y,n⟩;have q2:=(n.cell (o:=0) Y).trans M;have z:=m.trans n;have z2:=n.size;clear M m n;have b1:w.heap.size<Z.heap.size:=A7;rcases y.cases with⟨rfl,N⟩|⟨rfl,O⟩
  .have p:=Kz N;clear N y;go_wp2_with fail
   refine (xD _ a Kq.length cap).mono ?_;rintro e b ⟨rfl,A⟩;have i:=z.trans A;have z3:=A.size;clear q2 A z;have a0:(Instr.makeMap 100 none).run prog b=.ok (.map (some b.heap.size)) (b.alloc (.map #[] 0)):=rfl;go_wp2
   clear a0;have KB:K_ w ((b.alloc (.map #[] 0)).alloc (.cells #[.slice a Kq.length cap,.func (.func 82) #[] #[],.slice rd Kj.length rc,J6,.func (.func 41) #[] #[],.map (some b.heap.size)] 106)):=(i.alloc _).alloc _;have q:=X_ (b.alloc (.map #[] 0)) #[.slice a Kq.length cap,.func (.func 82) #[] #[],.slice rd Kj.length rc,J6,.func (.func 41) #[] #[],.map (some b.heap.size)] 106;simp only[Qh] at q;have B:=aH.made (b.alloc (.map #[] 0)) #[.slice a Kq.length cap,.func (.func 82) #[] #[],.slice rd Kj.length rc,J6,.func (.func 41) #[] #[],.map (some b.heap.size)] 106;simp only[Qh] at B;have P:BM (dm.no b) Kq b ((b.alloc (.map #[] 0)).alloc (.cells #[.slice a Kq.length cap,.func (.func 82) #[] #[],.slice rd Kj.length rc,J6,.func (.func 41) #[] #[],.map (some b.heap.size)] 106)) (b.heap.size+1) a cap rd Kj.length rc b.heap.size 0 [] none 0 (λ_=>.slice none 0 0) (λ_=>[]):=BM.begun B q;have⟨a1,b2⟩:=aJ P KB;clear q B P KB;have a2:=kQ h.o;go_loopw [29] (λC wr=>∃(k:Nat)(r:List Zk)(D:QW)(E:Nat),k<=Kj.length/\C=.b k/\BM (dm.no b) Kq b wr (b.heap.size+1) a cap rd Kj.length rc b.heap.size 0 r D E (λ_=>.slice none 0 0) (λ_=>[])/\BR Kq (Kj.take k) r) λC _=>Kj.length-(intOf C).toNat
   case atStart=>exact⟨0,[],none,0,Py _,rfl,a1.o,BR.nil Kq⟩
   case round=>
    obtain⟨k,r,D,E,hk,rfl,d,j⟩:=hrel;have b3:=d.len a2;have b4:Kj.length<=10:=p.o.2.1;by_cases F:k<Kj.length
    .obtain⟨a3,o,rfl,hb,f⟩:=L k F;obtain⟨G,H⟩:=aj (Kj.getD k ByteArray.empty);rw[<-H] at f;have b5:wr.cell? ⟨a3,o+k,none⟩=some (.string G):=((i.trans d.kw).cell hb).trans f;have a4:Hid (Kj.take (k+1)=Kj.take k++[G]):=by show _=_;rw[PH F,H];simp[List.getD,F]
     have HW:=Kz (vX d G A7 R (yE h.o) (K.kept i));have⟨a5,t⟩:=aJ d.asc j;have i0:(k:Int)<(Kj.length:Int):=A7;clear H d j f;go_wp2_with fail
     refine (bE HW).mono ?_;rintro e w5 ⟨rfl,a6,d5,a7,I,Q⟩;have a8:=Kz I;have a9:=Kz (t.o.want a5.o I.asc Q);clear I Q;go_wp2
     go_roundw
     case rel=>exact⟨k+1,a6,d5,a7,A7,C8,a8.o,by rw[a4.out];exact a9.o⟩
     case measure=>simp[intOf];omega
    .have b0:k=Kj.length:=A7;subst b0;rw[Qc] at j;have⟨v,t⟩:=aJ d j;clear d j;go_wp2
     go_ret2
     exact⟨i.trans v.o.kw,.inr ⟨h.o,p.o,b,_,_,r,D,E,rfl,i,v.o,(t.o.done (iC h.o) v.o.asc).1,(t.o.done (iC h.o) v.o.asc).2⟩⟩
  .have p:=Kz O;clear O y;go_wp2
   go_ret2
   exact⟨z,.inl ⟨λJ=>p.o J.2,rfl⟩⟩
 .have q:(c == 0)=false:=by simpa using x
  go_wp2
  go_ret2
  exact⟨m,.inl ⟨λJ=>x (h.o.unique J.1),rfl⟩⟩
section
variable {B:Nat}{Kf Kc:Nat -> Prop}{W0:QX}{Kq:List Qz}{wz W W':QX}{bb:Nat}{a:QW}{cap:Nat}{rd:QW}{rn rc:Nat}{mb mx:Nat}{ts0 ts:List Zk}{d0 d:QW}{dc:Nat}{f:QV -> QY}{ws:QV -> List Nat}
end
open Go.RowKit Go.Shelf
attribute [local go_sem] Oper.semAt_some
section
variable {Kq:List Qz}{wz w w':QX}{bb:Nat}{a:QW}{cap:Nat}{rd:QW}{rn rc:Nat}{mb mx:Nat}{ts:List Zk}{d:QW}{dc:Nat}{f:QV -> QY}{ws:QV -> List Nat}
end
section
variable {G:dm}{Kq:List Qz}{wz w w':QX}{bb:Nat}{a:QW}{cap:Nat}{rd:QW}{rn rc:Nat}{mb mx:Nat}{ts:List Zk}{d:QW}{dc:Nat}{f:QV -> QY}{ws:QV -> List Nat}
end
theorem jW.kept{w wz:QX}(h:jW w)(k:K_ w wz):jW wz:=λW give a b l c d e f i=>h W give a b l (k.trans c) d e f i
theorem Tryz.GQ(w:QX):(zeroValue 26).run prog w=.ok J6 w:=C9
structure nE (w:QX)(base mo M:Nat)(g:QV->QY)(ol:QV->List QV):Prop where
 map:∃N D,N<=M/\w.ownsMap prog 9 asIs mo N D/\(∀s:QV,s.size<=maxLen->D.atKey (cB s) (.held J6)=.held (g s))/\∀s:QV,Maps.has D (cB s)=true↔ol s≠[]
 row:∀s,w.ownsRow base 9 1 (g s) (ol s).length ((ol s).map Value.string)
 sep:∀s s',s≠s'->∀x,(g s).ownBlock=some x->(g s').ownBlock≠some x
 low:base<=mo
section
variable {w w1 w':QX}{base mo M:Nat}{g:QV -> QY}{ol:QV -> List QV}
theorem nE.look(h:nE w base mo M g ol){s:QV}(b:s.size<=maxLen):(Instr.lookup 135 (.map (some mo)) (.string s) false).run prog w=.ok (g s) w:=by
 obtain⟨N,D,_,c,d⟩:=h.map;obtain⟨v,j,e,a⟩:=c.lookup Tryz.keyed underlying135 (Tryz.GQ w) (zd:=.held J6) (zp:=[]) rfl (WideMaps.keyOf_string_mk underlying9 b);have f:=d.1 s b;unfold asIs at a;simp only[Ql,Prod.mk.injEq] at a;have i:(DataW.held v:DataW QY)=.held (g s):=a.1.trans f;cases i;exact e
theorem nE.but{S:Nat->Prop}(h:nE w base mo M g ol)(k:But S w w')(a:¬S mo)(h2:∀s b,(g s).ownBlock=some b->¬S b):nE w' base mo M g ol:=by
 obtain⟨N,D,c,d,e⟩:=h.map;exact⟨⟨N,D,c,iW d k a,e⟩,λs=>k.owns (h.row s) (h2 s),h.sep,h.low⟩
theorem nE.kept(h:nE w base mo M g ol)(k:K_ w w'):nE w' base mo M g ol:=
 h.but (S:=λ_=>False) (But.ak k) id λ_ _ _=>id
theorem nE.sJ(h:nE w base mo M g ol){s:QV}(b:s.size<=maxLen)(f:w.grownBy w1 (g s).ownBlock):(Instr.lookup 135 (.map (some mo)) (.string s) false).run prog w1=.ok (g s) w1:=by
 obtain⟨N,D,_,c,i⟩:=h.map;have j:w1.ownsMap prog 9 asIs mo N D:=iW (S:=λd=>(g s).ownBlock=some d) c (But.aI f λd e=>e) λe=>iP c (Y_ (h.row s) e) rfl;obtain⟨v,m,k,a⟩:=j.lookup Tryz.keyed underlying135 (Tryz.GQ w1) (zd:=.held J6) (zp:=[]) rfl (WideMaps.keyOf_string_mk underlying9 b);have e:=i.1 s b;unfold asIs at a;simp only[Ql,Prod.mk.injEq] at a;have l:(DataW.held v:DataW QY)=.held (g s):=a.1.trans e;cases l;exact k
theorem nE.put(h:nE w base mo M g ol){s:QV}(G:s.size<=maxLen){x:QV}{f:QY}(v:w1.ownsRow base 9 1 f ((ol s).length+1) ((ol s).map Value.string++[.string x]))(H:w.grownBy w1 (g s).ownBlock)(z:∀b,f.ownBlock=some b->(g s).ownBlock=some b\/w.heap.size<=b)(R:M<=1000000):
  ∃w2,(Instr.mapUpdate 135 (.map (some mo)) (.string s) f).run prog w1=.ok () w2/\nE w2 base mo (M+1) (λn=>if n=s then f else g n) (λn=>if n=s then ol s++[x] else ol n)/\But (λb=>(g s).ownBlock=some b\/b=mo) w w2:=by
 obtain⟨N,I,S,l,A⟩:=h.map;have B:But (λb=>(g s).ownBlock=some b) w w1:=But.aI H λb e=>e;have C:=iW l B λe=>iP l (Y_ (h.row s) e) rfl;obtain⟨w2,J,K,D⟩:=C.update Tryz.keyed underlying135 D6 (WideMaps.keyOf_string_mk underlying9 G) (d:=.held f) (ps:=[]) rfl;have E:But (λb=>(g s).ownBlock=some b\/b=mo) w w2:=(B.mono λb _ e=>.inl e).trans (But.aI D λb e=>.inr (Qv e).symm);have L:But (λb=>b=mo) w1 w2:=But.aI D λb e=>(Qv e).symm;have O:∀{b:Nat}{t:TypeId},bu w1 b t->¬b=mo:=λP e=>iP C P e
 have F:Maps.IsMap I:=by obtain⟨T,U,_,_,_,rfl⟩:=l;exact⟨_,rfl⟩
 refine⟨w2,J,⟨⟨N+1,_,A7,K,λn Q=>?_,λn=>?_⟩,λn=>?_,λn m r y i a=>?_,h.low⟩,E⟩
 .by_cases e:n=s
  .rw[QI e,e];exact Maps.atKey_put_same (k:=cB s) F (by show WideAt.IsKeyLit (.string _);exact trivial) _ _
  .rw[QJ e,<-A.1 n Q];exact Maps.atKey_put_other (gY e) _ _
 .by_cases e:n=s
  .rw[QI e,e];exact⟨λ_=>A9,λ_=>Maps.has_put_same (k:=cB s) F (by show WideAt.IsKeyLit (.string _);exact trivial) (.held f)⟩
  .rw[QJ e,<-A.2 n];exact Eq.to_iff (congrArg (· =true) (Maps.has_put_other (gY e) _))
 .by_cases e:n=s
  .simp only[QI e];have p:(ol s++[x]).length= (ol s).length+1:=A9;have c:(ol s++[x]).map Value.string= (ol s).map Value.string++[.string x]:=A9;rw[p,c];exact L.owns v λb e=>O (Y_ v e)
  .simp only[QJ e];refine E.owns (h.row n) λb p c=>?_;rcases c with c|c
   .exact h.sep n s e b p c
   .exact iP l (Y_ (h.row n) p) c
 .by_cases e:n=s
  .rw[QI e] at i;rw[QJ λj=>r (e.trans j.symm)] at a;rcases z y i with q|q
   .exact h.sep s m (λj=>r (e.trans j)) y q a
   .have:=((h.row m).lt y a).2;omega
  .rw[QJ e] at i;by_cases j:m=s
   .rw[QI j] at a;rcases z y a with q|q
    .exact h.sep n s e y i q
    .have:=((h.row n).lt y i).2;omega
   .rw[QJ j] at a;exact h.sep n m r y i a
theorem nE.made{base:Nat}(b:base<=w.heap.size):nE (w.alloc (.map #[] 0)) base w.heap.size 0 (λ_=>.slice none 0 0) (λ_=>[]):=
 ⟨⟨0,.map [],Pw _,World.ownsMap_made w prog 9 asIs,λs _=>rfl,λs=>by simp[Maps.has]⟩,λs=>Qt _ _ _ _,λs d _ x h=>(by cases h),b⟩
end
attribute [local go_sem] Oper.semAt_some
def Le(B:Nat)(d:QW)(tx:Nat->QV)(i:Nat)(W:QX):Prop:=∃b o,d=some ⟨b,o,none⟩/\b<B/\W.cell? ⟨b,o+i,none⟩=some (.string (tx i))
theorem Co(B a:Nat)(d:QW)(dc n:Nat)(b:Nat->QV)(q:n<=1048576):
  Mj prog 153 #[.h a] (λi=>#[.string (b i)]) (Le B d b) (λ_ _=>False) n (λW=>W.cell? ⟨a,0,none⟩=some (.slice d n dc)):=by
 intro y J r W s c f;refine callsIn_of_wp func153 rfl trivial ?_ rfl;simp only[ntmps153,List.size_toArray,Qn,List.length_nil,Nat.reduceAdd,Nat.reduceSub,Array.replicate_succ,Array.replicate_zero,List.push_toArray,List.append_toArray,List.nil_append,List.cons_append];have j:=Kz c;clear c
 gi_wp2
 gi_loopw [7] (λx wr=>∃i:Nat,i<=n/\x=.b i/\J i wr) λx _=>n-(intOf x).toNat
 case atStart=>exact⟨0,Py _,rfl,f⟩
 case round=>
  obtain⟨i,t,rfl,e⟩:=hrel;by_cases k:i<n
  .rcases j.o i wr k e with⟨⟨v,o,rfl,_,w⟩,z,A,C,D,E,l⟩|⟨h,_⟩
   .gi_wp2
    refine l.mono ?_;rintro F G (⟨rfl,m⟩|⟨rfl,p⟩)
    .gi_wp2
     go_roundw
     case rel=>exact⟨i+1,A7,C8,m⟩
     case measure=>simp[intOf];omega
    .gi_wp2
     refine bodyPost_ret (results_none rfl _ _ _) rfl ?_;exact⟨⟨_,rfl⟩,.inr p⟩
   .exact h.elim
  .gi_wp2
   go_end0
   have:i=n:=A7;subst this;exact⟨⟨_,rfl⟩,.inl e⟩
def AqI(w1:QX)(c:Nat)(l:List QV)(i:Nat)(W:QX):Prop:=
 K_ w1 W/\c<W.heap.size/\∃v:QY,W.cell? ⟨c,0,none⟩=some v/\W.frozen? ⟨c,0,none⟩=false/\W.ownsRow (c+1) 9 1 v (l.take i).length ((l.take i).map Value.string)
theorem AqI.calm{w1:QX}{c:Nat}{l:List QV}{i B:Nat}(s:w1.heap.size<=c)(t:c<B):Calm B (AqI w1 c l i):=by
 constructor
 .rintro W o w ⟨k,a,v,h,j,d⟩;have f:=(K_.refl W).alloc o;exact⟨k.trans f,by rw[Qh];omega,v,(f.cell a).trans h,(f.rules.2 c 0 a).trans j,(But.ak (S:=λ_=>False) f).owns d λ_ _=>id⟩
 .rintro W y o m x p q ⟨k,a,v,h,j,d⟩;have n:But (λb=>b=y) W (W.putObj y m):=⟨rfl,rfl,rfl,F7,λb _ e=>World.putObj_heap_other e⟩;refine⟨n.kept k (λb e=>by rw[e];omega),by rw[World.putObj_size];exact a,v,(jw m A7).trans h,(FU m A7).trans j,n.owns d λb r e=>?_⟩;have:=lX (Y_ d r) (by rw[e];exact p);rw[q] at this;cases this
theorem uJ{B:Nat}{v:QY}{c o:Nat}(f:c<B):Calm B (λW=>W.cell? ⟨c,o,none⟩=some v):=by
 constructor
 .intro W b h a;obtain⟨i,d,_⟩:=cells_of_cell a;exact (((K_.refl W).alloc b).cell (aP d)).trans a
 .intro W y b e k l m a;exact (jw e A7).trans a
theorem Gf{B:Nat}{d:QW}{j:Nat->QV}{i C:Nat}(h:B<=C):Calm C (Le B d j i):=by
 constructor
 .rintro W c k ⟨b,o,rfl,a,f⟩;exact⟨b,o,rfl,a,(uJ (Px a h)).1 W c k f⟩
 .rintro W y c m n p q ⟨b,o,rfl,a,f⟩;exact⟨b,o,rfl,a,(uJ (Px a h)).2 W y c m n p q f⟩
theorem EH :∃ic,prog.info? 9=some ic/\ic.zero=some (.string ByteArray.empty)/\ic.size=1/\ic.bytes=16:=info_parts Tryz.Iy
theorem zX(w:QX)(q:Nat)(d:QW)(dc:Nat)(l:List QV)(hn:l.length<=1048576)(a8:q<w.heap.size)(hc:w.cell? ⟨q,0,none⟩=some (.slice d l.length dc))(hS:Strs w d l):
  Calls prog 169 #[J6,.func (.func 153) #[] #[.h q]] w λe w'=>∃v,e=.returned v/\w'.ownsRow w.heap.size 9 1 v l.length (l.map Value.string)/\K_ w w':=by
 refine (callsIn_wide (n:=9)).1 ?_;refine callsIn_of_wp_marks func169 rfl trivial ?_ rfl;simp only[ntmps169,List.size_toArray,Qn,List.length_nil,Nat.reduceAdd,Nat.reduceSub,Array.replicate_succ,Array.replicate_zero,List.push_toArray,List.append_toArray,List.nil_append,List.cons_append]
 gi_wp2_with fail
 obtain⟨r,A⟩:∃r,w.alloc (.cells #[J6] 26)=r:=⟨_,rfl⟩;rw[A];have Z:K_ w r:=by rw[<-A];exact ai _ _
 have z0:r.heap.size=w.heap.size+1:=by rw[<-A];simp
 obtain⟨a0,q1,_⟩:=FM (w:=w) (v:= J6) (t:=26) (w1:=r) (by rw[A];exact K_.refl _);have F:=(Z.cell a8).trans hc;obtain⟨k,R⟩:∃k:Nat->QV,∀i,k i=l.getD i ByteArray.empty:=⟨_,λ_=>rfl⟩;have a9:Hid (∀i W,i<l.length->K_ w W->Le w.heap.size d k i W):=λi W B a1=>by
  obtain⟨b,o,e,G,b0⟩:=hS i B;exact⟨b,o,e,G,by rw[R];exact (a1.cell G).trans b0⟩
 have b1:=Kz R;clear R;refine DW (Co w.heap.size q d dc l.length k hn) rfl (enters_of func153 C9 rfl) (uJ A7) F (λ_=>rfl)
  (AqI w w.heap.size l) (λ_ _=>False) (λi=>AqI.calm (Pw _) A7) (λ_=>yL _)
  ⟨Z,A7,J6,a0,q1,by rw[List.take_zero];exact Qt _ _ _ _⟩
  (λi=>{tmps:= #[J6,.func (.func 153) #[] #[.h q],.h w.heap.size,undef,J6,.string (k i),.func (.func 153) #[] #[.h q],.string (k i),undef,undef,undef,undef,undef],defers:=[]}) ?assign ?calm ?step ?done ?stop
 case assign=>
  intro b2 i W a1 hK
  gi_wp2
  exact hK
 case calm=>exact λi=>Gf A7
 case stop=>
  intro D c W _ b3 _;exact b3.elim
 case step=>
  rintro i W B ⟨s,x,v,C,H,h⟩;refine .inl ⟨a9.o i W B s,?_⟩;clear h H C v x s;clear W;rintro b2 W _ ⟨s,x,v,C,H,h⟩ c6;obtain⟨I,J,rfl⟩:=aG h;obtain⟨f,K⟩:=aj (l.take i);have c7:f.length<=1048576:=by rw[K,PW];omega
  rw[<-K] at h C;obtain⟨j,T⟩:=aj (k i);rw[<-T];have b4:Hid (l.take (i+1)=f++[j]):=by
   show l.take (i+1)=f++[j];rw[PH B,K,T,b1.o];simp[List.getD,B]
  have H3:=Kz h;clear h a0 q1 F A T K;obtain⟨ic,F,b5,b6,b7⟩:=EH;have b8:w.heap.size+1<=W.heap.size:=A7;obtain⟨V,y⟩:=aj (W.alloc (.cells #[.string j] 9));have L:K_ W V:=by rw[y];exact ai _ _
  have M:=Kz L;have z:=Kz ((But.ak (S:=λ_=>False) L).owns H3.o λ_ _=>id);have a2:w.heap.size+1<=V.heap.size:=Pz b8 L.size;have a3:Hid (∀N u,([.string j]:List QY)[N]? =some u->V.cell? ((⟨W.heap.size,0,none⟩:Addr).add N)=some u):=λN u O=>by rw[Qo,y];exact X_ W #[.string j] 9 N u O
  have b9:Hid (∀u∈([.string j]:List QY),u.oneCell'=true):=λu O=>by simp only[Qr,Qs,or_false] at O;subst O;rfl
  have c0:Hid (KeepsOthers W V):=by rw[y];exact KeepsOthers.alloc _ _
  rw[y] at z a3 a2;have HV:=Kz y;clear L y
  gi_wp2_with (gi_at_builtin;refine wpListIn_append_own _ rfl (.tmp 8) (.tmp 10) 26 rfl (w.heap.size+1) 9 ic _ 1 16 underlying26 F b5 b6 b7 rfl A8 (.slice I f.length J) f.length (f.map Value.string) rfl z.o ⟨W.heap.size,0,none⟩ 1 1 [.string j] rfl rfl a3.o b9.o D6 A7 a2 ?_;intro v' m U P _;rw[<-HV.o] at P z;have Q:∀b,(Value.slice I f.length J).ownBlock=some b->w.heap.size+1<=b:=λb e=>(z.o.lt b e).1;have E:But (λb=>(Value.slice I f.length J).ownBlock=some b) V m:=But.aI P λb e=>e;have X:w.heap.size<V.heap.size:=Px x M.o.size;have s9:m.cell? ⟨w.heap.size,0,none⟩=some (.slice I f.length J):=(E.cell X λe=>by have:=Q _ e;omega).trans ((M.o.cell x).trans C);have f9:m.frozen? ⟨w.heap.size,0,none⟩=false:=(World.frozen?_of_block (w:=V) (a:=⟨w.heap.size,0,none⟩) (E.block w.heap.size X λe=>by have:=Q _ e;omega)).trans ((M.o.rules.2 _ _ x).trans H);have z9:w.heap.size<m.heap.size:=Px X E.size;have c1:=Kz (E.kept (s.trans M.o) λb e=>by have:=Q b e;omega);have c2:=Kz (c0.o.trans (KeepsOthers.of_grownBy P λb o e ho=>lX (Y_ z.o e) ho));have c3:=Kz U;obtain⟨a4,a5,rfl⟩:=aG U;clear U P E Q HV z)
  have c4:Hid (KeepsFrom r.heap.size W (m.setCell ⟨w.heap.size,0,none⟩ (.slice a4 (f.length+1) a5))):=(c2.o.trans (KeepsOthers.setCell _ _ _)).from _
  refine⟨c4.o,c1.out.setCell (Pw _) _,by rw[size_setCell];exact z9,_,QC _ _ _ s9,by rw[World.frozen?_setCell];exact f9,?_⟩;have HO:m.ownsRow (w.heap.size+1) 9 1 (.slice a4 (f.length+1) a5) (f++[j]).length ((f++[j]).map Value.string):=by rw[Qi,QM];exact c3.o
  rw[b4.o];exact (But.set (S:=λb=>b=w.heap.size) (But.ak (K_.refl m)) (p:=⟨w.heap.size,0,none⟩) rfl _).owns HO (λb e e2=>by have:=(HO.lt b e).1;omega)
 case done=>
  rintro D W hD ⟨s,x,v,C,H,h⟩ a6;rw[Qc] at h;have c5:w.heap.size<=D:=A7;have Y:But (λb=>b=D) W (W.putObj D (.deferred none)):=⟨rfl,rfl,rfl,F7,λb _ e=>World.putObj_heap_other e⟩;have a7:Hid (K_ w (W.putObj D (.deferred none))/\(W.putObj D (.deferred none)).ownsRow w.heap.size 9 1 v l.length (l.map Value.string)):=by
   refine⟨Y.kept s (λb e=>by rw[e];exact c5),gX (Y.owns h λb G e=>?_) A7⟩;have:=lX (Y_ h G) (by rw[e];exact a6);cases this
  clear h Y
  gi_wp2
  exact⟨A9,.inl ⟨_,_,rfl,run_takeDeferred a6,_,results_tmp rfl _ _ _,v,rfl,a7.o.2,a7.o.1⟩⟩
theorem Dt(w:QX)(a:Nat)(d:QW)(dc:Nat)(l:List QV)(c:l.length<=1048576)(f:a<w.heap.size)(h:w.cell? ⟨a,0,none⟩=some (.slice d l.length dc))(i:Strs w d l):
  Calls prog 150 #[.func (.func 153) #[] #[.h a]] w λe w'=>∃v,e=.returned v/\w'.ownsRow w.heap.size 9 1 v l.length (l.map Value.string)/\K_ w w':=by
 go_enter func150,ntmps150
 go_wp2_with fail
 refine (zX w a d dc l c f h i).mono ?_;rintro e w1 ⟨v,rfl,b,j⟩;have k:=Kz b;clear b;go_wp2
 go_ret
 exact⟨v,rfl,k.o,j⟩
theorem FI(w:QX)(d:QW)(n dc:Nat):
  Calls prog 132 #[.slice d n dc] w λe w'=>e=.returned (.func (.func 153) #[] #[.h w.heap.size])/\w'=w.alloc (.cells #[.slice d n dc] 26):=by
 go_enter func132,ntmps132
 go_wp2
 go_ret
 exact⟨rfl,rfl⟩
open Go.RowKit Go.Sort
def w_(l ns:List QV):Prop:=ns.Perm l/\ns.Pairwise λa b=>¬aQ b a
theorem w_.asc{l a:List QV}(h:w_ l a)(d:l.Nodup):rC a/\∀s,s∈a↔s∈l:=by
 refine⟨?_,λs=>h.1.mem_iff⟩;have e:a.Nodup:=h.1.nodup_iff.2 d;unfold rC;exact (h.2.and e).imp λ{f b} c=>by
  rcases dA f b with g|g|g
  .exact g
  .exact QK g c.2
  .exact QK g c.1
theorem xB(l:List QV):w_ l (((l.map λs=>s.data.toList).mergeSort λx y=>decide (x<=y)).map λx=>(⟨x.toArray⟩:QV)):=by
 constructor
 .have h:=(List.mergeSort_perm (l.map λs=>s.data.toList) λx y=>decide (x<=y)).map λx:List UInt8=>(⟨x.toArray⟩:QV);rw[List.map_map] at h;have j:((λx:List UInt8=>(⟨x.toArray⟩:QV)) ∘ λs:QV=>s.data.toList)=id:=by
   funext s
   simp
  rw[j,List.map_id] at h;exact h
 .rw[List.pairwise_map];have h:=List.pairwise_mergeSort (le:=λx y:List UInt8=>decide (x<=y)) (λa b c d e=>by
   simp only[QP] at d e⊢;exact List.le_trans d e) (λa b=>by
   simp only[Bool.or_eq_true,QP];exact List.le_total a b) (l.map λs=>s.data.toList)
  refine h.imp λ{a b} f=>?_
  simp only[QP] at f;unfold aQ;rw[bytesLess_eq];simp only[QP];have i:∀x:List UInt8,(⟨x.toArray⟩:QV).toList=x:=λx=>by simp[ByteArray.toList_eq]
  rw[i,i];exact List.not_lt.2 f
theorem Jd(l:List QV):(l.map λs=>s.data.toList).map encStr=l.map Value.string:=by
 rw[List.map_map];apply List.map_congr_left;intro s _;simp[encStr]
theorem FC(w:QX)(f:Nat)(d:QW)(dc:Nat)(l:List QV)(H:l.length<=1048576)(I:f<w.heap.size)(J:w.cell? ⟨f,0,none⟩=some (.slice d l.length dc))(K:Strs w d l):
  Calls prog 130 #[.func (.func 153) #[] #[.h f]] w λe w'=>∃v ns,e=.returned v/\w'.ownsRow w.heap.size 9 1 v ns.length (ns.map Value.string)/\w_ l ns/\K_ w w':=by
 go_enter func130,ntmps130
 go_wp2_with fail
 refine (Dt w f d dc l H I J K).mono ?_;rintro e w1 ⟨v,rfl,h,r⟩;have W:=Kz h;rcases h.2 with⟨rfl,L⟩|⟨g,s,X,rfl,t,i,M,z,A,B⟩
 .clear h;go_wp2_with fail
  refine (Tryz.slices_Sort_string_none none 0 w1).mono ?_;rintro e C ⟨rfl,b⟩;rw[b];clear b C;go_wp2
  go_ret
  have N:l=[]:=PQ.1 L;refine⟨_,[],rfl,Qt _ _ _ _,by rw[N];exact⟨List.Perm.refl _,List.Pairwise.nil⟩,r⟩
 .obtain⟨a,j⟩:=aj (l.map λO=>O.data.toList);have k:a.length=l.length:=by rw[j];simp
  have D:Holds encStr w1 g 0 a.toArray:=holds_of_block i (by rw[k,j,Jd];simpa using B);have E:=Kz (Tryz.slices_Sort_string g 0 s a w1 D (aP i) A7);have P:Hid (∀n c,w1.grownBy (grow (putRow encStr (Sort.ahead w1 n) g 0 (a.mergeSort λx y=>decide (x<=y)).toArray) c) (some g)/\(grow (putRow encStr (Sort.ahead w1 n) g 0 (a.mergeSort λx y=>decide (x<=y)).toArray) c).ownsRow w.heap.size 9 1 (.c g a.length s) a.length ((a.mergeSort λx y=>decide (x<=y)).map encStr)):=λn c=>⟨grownBy_sorted _,ownsRow_sorted A9 t i A7 z (by simpa using A)⟩
  rw[k] at E;have⟨Q,F⟩:=aJ j k;clear h B A z M i D j k;go_wp2_with fail
  refine E.o.mono ?_;rintro e C ⟨rfl,n,c,b⟩;obtain⟨p,m⟩:=P.o n c;rw[<-b] at p m;rw[F.o] at m;have⟨R,T⟩:=aJ p m;clear p m b;go_wp2
  go_ret
  have G:=xB l;rw[<-Q.o] at G;have U:((a.mergeSort λx y=>decide (x<=y)).map λx=>(⟨x.toArray⟩:QV)).length=l.length:=by simp[F.o]
  have V:((a.mergeSort λx y=>decide (x<=y)).map λx=>(⟨x.toArray⟩:QV)).map Value.string= (a.mergeSort λx y=>decide (x<=y)).map encStr:=by rw[List.map_map];rfl
  refine⟨_,_,rfl,by rw[U,V];exact T.o,G,?_⟩;exact (But.aI (S:=λq=>q=g) R.o λq e=>(Qv e).symm).kept r (λq e=>by rw[e];exact t)
