import Derived.Test.YtjbipapbckajnaaGreatDoorKVCirc
import Derived.Deep.AppendLies
import Derived.Test.YtjbipapbckajnaaGreatDoorKWGo5
set_option maxRecDepth 100000
set_option maxHeartbeats 25600000
namespace Go.Proofs.YtjbipapbckajnaaGreatDoor
open Go.RowKit Go.Proofs.Tryz
theorem aY{P:Program}{e:TypeId}{z:Pw}{size c:Nat}(h:(P.info? e).map (λi=>(i.zero,i.size,i.bytes))=some (some z,size,c)):∃i,P.info? e=some i/\i.zero=some z/\i.size=size/\i.bytes=c:=by
 obtain⟨i,f,a⟩:=Option.map_eq_some_iff.1 h;simp only[Prod.mk.injEq] at a;exact⟨i,f,a.1,a.2.1,a.2.2⟩
theorem oV{W:bR}{σ:Env}{a:Ps}{x:Xq}:∀{l:List Ps} {xs:List Xq},Yq W σ l=some xs->aP W σ a=some x->Yq W σ (l++ [a])=some (xs++ [x])
 | [],xs,h,hx=>by
  simp only[Yq,OE] at h;subst h;simp[Yq,hx]
 | b :: l,xs,h,hx=>by
  unfold Yq at h;cases c:aP W σ b with
  | none=>simp[c] at h
  | some y=>
   cases d:Yq W σ l with
   | none=>simp[c,d] at h
   | some ys=>
    simp only[c,d,OE] at h;subst h;show Yq W σ (b :: (l++ [a]))=_;unfold Yq;rw[c,oV d hx]
    rfl
theorem pJ{W:bR}{σ:Env}{a:Ps}(d:aP W σ a=none):∀{l:List Ps},a∈l->Yq W σ l=none
 | b :: l,h=>by
  unfold Yq;rcases OL.1 h with rfl|h
  .rw[d]
  .cases e:aP W σ b with
   | none=>rfl
   | some y=>simp only[pJ d h]
def JY(Kj:List Qq)(l:List Qz)(asks:List Ps)(w':Pv)(e:Ending):Prop:=
 ∃(d:Pt) (n c:Nat) (ok:Bool),e= .returned (.tuple #[.slice d n c,.bool ok])/\(ok=true->∃xs,Yq (Q_ Kj) (Qj l) asks=some xs/\n=xs.length/\eU w' d xs)/\(ok=false->Yq (Q_ Kj) (Qj l) asks=none)
theorem Dp(w:Pv)(C:Nat)(a:Pt)(N:Nat)(Kj:List Qq)(d:Pt)(O:Nat)(l:List Qz)(s:Xj)(n D:Pt)(v E:Nat)(a4:Kj.length<=1048576)(a5:l.length<=1048576)(c2:s.asks.length<=1000)(a6:∀x∈s.asks,x.size<=1000)
  (P:jb w C a Kj.length N d l.length O) (Q:bN w a Kj) (R:fw w d l) (S:Strs w n s.asks):
  Calls prog 122 #[.c C,.agg #[.slice n s.asks.length v,.a s.on,.slice D s.cases.length E,.a s.els,.a s.fall,.bool s.fin,.bool s.bad,.string s.give]] w λe w'=>JY Kj l s.asks w' e/\K_ w w':=by
 have m:K_ w (w.alloc (.cells #[.slice n s.asks.length v,.a s.on,.slice D s.cases.length E,.a s.els,.a s.fall,.bool s.fin,.bool s.bad,.string s.give] 176)):=ah _ _;obtain⟨b,p⟩:=ai (w.alloc (.cells #[.slice n s.asks.length v,.a s.on,.slice D s.cases.length E,.a s.els,.a s.fall,.bool s.fin,.bool s.bad,.string s.give] 176));have q0:b.cell? ⟨w.heap.size,0,none⟩=some (.slice n s.asks.length v):=by rw[p];exact Xz w _ _ 0 _ rfl
 have T:w.heap.size<b.heap.size:=by rw[p];simp
 rw[<-p] at m;have U:K_ b (b.alloc (.cells #[] 80)):=ah _ _;have V:Hid ((b.alloc (.cells #[] 80)).ownsRow b.heap.size 80 2 (.b b.heap.size 0 0) 0 (bO [])):=Ov b #[] 0 (NQ _) (NS _) rfl;have a7:=Kz (S.kept m);have a8:=Kz (Q.kept m);have a9:=Kz (R.kept m);have b0:=Kz (P.kept m);have W:=Kz m;clear S Q R P m;go_enter func122,ntmps122
 go_upto_region 1 with fail
 rw[<-p];clear p;go_wp2
 go_loopg [6,7] s.asks.length (λgg x6 x7 wr=>∃(i:Nat) (c:List Xq),x7= .a (i:Int)/\i+gg=s.asks.length/\c.length=i/\Hid (Yq (Q_ Kj) (Qj l) (s.asks.take i)=some c)/\K_ b wr/\Hid (wr.ownsRow b.heap.size 80 2 x6 c.length (bO c)))
 case atStart=>exact⟨0,[],rfl,A7,rfl,Kz rfl,U,V⟩
 case round=>
  clear V U;obtain⟨i,c,rfl,hi,F,X,k,G⟩:=hrel;have Y:=Kz F;clear F;obtain⟨H,I,rfl⟩:=ay G.o;have c0:=(k.cell T).trans q0;have cz:w.heap.size<wr.heap.size:=NR T k.size;by_cases c3:(i:Int)<(s.asks.length:Int)
  .have q:i<s.asks.length:=A7;obtain⟨sb,so,rfl,b1,Z⟩:=(a7.o.kept k) i q;obtain⟨J,y⟩:=ai (s.asks.getD i ByteArray.empty);rw[<-y] at Z;have b2:J.size<=1000:=by rw[y];exact a6 _ (by simp[List.getD,q])
   have a0:=Kz y;clear y;go_wp2_with fail
   refine (Er wr C a N Kj d O l J a4 a5 b2 (b0.o.kept k) (a8.o.kept k) (a9.o.kept k)).mono ?_;rintro e j ⟨⟨f,t,ok,rfl,a1⟩,r⟩;have K:=Kz a1;clear a1 Z b1;have L:K_ j (j.alloc (.cells #[.bool f,.string t] 80)):=ah _ _;cases ok
   .go_wp2
    go_ret2
    refine⟨⟨H,_,I,false,rfl,(λh=>(by cases h)),λ_=>pJ (a:=J) (by simpa using K.o) (by rw[a0.o];simp[List.getD,q])⟩,W.o.trans (k.trans (r.trans L))⟩
   .have z:K_ j ((j.alloc (.cells #[.bool f,.string t] 80)).alloc (.cells #[.bool f,.string t] 80)):=L.alloc _;have r0:=Xz j #[.bool f,.string t] 80 0 _ rfl;have r1:=Xz j #[.bool f,.string t] 80 1 _ rfl;simp only[Ow] at r0 r1;have a2:=Kz (ak G.o (r.trans z));have b3:b.heap.size<=((j.alloc (.cells #[.bool f,.string t] 80)).alloc (.cells #[.bool f,.string t] 80)).heap.size:=(k.trans (r.trans z)).size;have b4:Hid (∀A u,([.bool f,.string t]:List Pw)[A]? =some u->((j.alloc (.cells #[.bool f,.string t] 80)).alloc (.cells #[.bool f,.string t] 80)).cell? ((⟨j.heap.size+1,0,none⟩:Addr).add A)=some u):=λA u B=>by have:=Xz (j.alloc (.cells #[.bool f,.string t] 80)) #[.bool f,.string t] 80 A u B;rw[OC] at this;rw[OI];exact this
    have b5:Hid (∀u∈([.bool f,.string t]:List Pw),u.oneCell'=true):=λu B=>by simp only[OL,OM,or_false] at B;rcases B with rfl | rfl <;> rfl
    have KK:=Kz (k.trans (r.trans z));have F:c.length<=1000:=by have:=Y.o;omega
    obtain⟨ic,b6,b7,b8,b9⟩:=aY Tryz.yO;clear r L z;go_wp2_with (at_builtin;refine wpList_append_own _ rfl (.tmp 31) (.tmp 33) 181 rfl b.heap.size 80 ic _ 2 24 underlying181 b6 b7 b8 b9 rfl A8 (.slice H c.length I) c.length (bO c) rfl a2.o ⟨j.heap.size+1,0,none⟩ 1 1 [.bool f,.string t] rfl rfl b4.o b5.o D5 A7 b3 ?_;intro v' w6 M a3 _;have KP:=aL KK.out (NQ _) a2.o a3;have HP:=Kz M;obtain⟨c4,c5,rfl⟩:=ay M;clear M a3)
    go_roundg (gk-1)
    case measure=>omega
    case rel=>exact⟨i+1,c++ [⟨f,t⟩],C8,A7,by rw[OD,Y.o];rfl,Kz (by rw[NY q];exact oV X.o (by rw[a0.o] at K;simpa[List.getD,q] using K.o)),KP,Kz (by rw[lF,OD];exact HP.o)⟩
  .have c1:i=s.asks.length:=A7;go_wp2
   go_ret2
   refine⟨⟨H,_,I,true,rfl,λ_=>⟨c, ?_,rfl, ?_⟩,(λh=>(by cases h))⟩,W.o.trans k⟩
   .have:=X.o;rw[c1,Ox] at this;exact this
   .obtain⟨c6,c7,e2,_,hT⟩:=gH G.o;simp only[OG,true_and] at e2;obtain⟨rfl,_⟩:=e2;exact hT.answers
def NC(Kj:List Qq)(r:Qz):Prop:=∃A,Q_ Kj r.name=some A/\0<=r.at'/\r.at' < A.steps.length
def aX(W:bR):Prop:=∀n A,W n=some A->gW A/\jo n
theorem vg :∀{xs:List Xq} {k j:Nat},oU xs k=some j->∃i,j=k+i/\i<xs.length/\iG (xs.getD i Xq.zero)/\mR xs iG i
 | [],_,_,h=>by simp[oU] at h
 | x :: l,k,j,h=>by
  unfold oU at h;by_cases a:x.fail=true
  .rw[Pe a] at h;cases h;exact⟨0,rfl,A9,a,λj b=>aT b⟩
  .rw[Pf a] at h;obtain⟨i,f,c,d,e⟩:=vg h;refine⟨i+1,A7,by simpa using c,d,λj b=>?_⟩;cases j with
   | zero=>exact a
   | succ j=>exact e j A7
theorem uU :∀{xs:List Xq} {k:Nat},oU xs k=none->mR xs iG xs.length
 | [],_,_=>λj b=>aT b
 | x :: l,k,h=>by
  unfold oU at h;by_cases c:x.fail=true
  .rw[Pe c] at h;cases h
  .rw[Pf c] at h;have:=uU h;intro j b;cases j with
   | zero=>exact c
   | succ j=>exact this j (by simpa using b)
theorem uH(t:Ps)(els:Int):∀(l:List bS),(∃i,i<l.length/\(l.getD i bS.zero).text=t/\(∀j,j<i->(l.getD j bS.zero).text≠t)/\pY t els l= (l.getD i bS.zero).goto)\/((∀j,j<l.length->(l.getD j bS.zero).text≠t)/\pY t els l=els)
 | []=>.inr ⟨λj a=>aT a,rfl⟩
 | c :: l=>by
  by_cases b:c.text=t
  .exact .inl ⟨0,A9,b,λj a=>aT a,by simp[pY,b,List.getD]⟩
  .have f:pY t els (c :: l)=pY t els l:=by simp[pY,b]
   rw[f];rcases uH t els l with⟨i,d,e,h,k⟩|⟨d,e⟩
   .refine .inl ⟨i+1,by simpa using d,e,λj a=>?_,k⟩;cases j with
    | zero=>exact b
    | succ j=>exact h j A7
   .refine .inr ⟨λj a=>?_,e⟩;cases j with
    | zero=>exact b
    | succ j=>exact d j (by simpa using a)
variable {xs : List Xq}
theorem jc{s:Xj}(h:yw s xs):Followed s xs (bQ s xs):=by
 refine .inr ⟨h, ?_⟩;unfold bQ;cases e:oU xs 0 with
 | some j=>
  obtain⟨i,p,f,k,l⟩:=vg e;have:j=i:=A7;subst this;refine .inl ⟨j,f,k,l, ?_⟩;by_cases a:s.fall= -1
  .exact .inl ⟨a,by simp[a]⟩
  .exact .inr ⟨a,by simp[a]⟩
 | none=>
  refine .inr ⟨uU e,_, ?_,rfl⟩;by_cases b:xs.length=0
  .rw[Pe b];exact .inl ⟨b,rfl⟩
  .rw[Pf b];refine .inr ⟨b, ?_⟩;rcases uH (mJ xs s.on) s.els s.cases with⟨i,c,d,m,n⟩|⟨c,d⟩
   .exact .inl ⟨i,c,d,m,n⟩
   .exact .inr ⟨c,d⟩
theorem mK.NP{cost:Int}{l:List Xj}{a:Int}{ans:List Xq}{g:b_}(h:mK cost l a ans g):(g.code=0->g.over=false->0<=g.at'/\g.at' < l.length)/\(g.over=true->7<=g.text.size):=by
 rcases h with⟨_,rfl⟩|⟨⟨c,⟨w,x⟩,d⟩,h⟩
 .exact⟨λe=>by simp[b_.none] at e,λe=>by simp[b_.none] at e⟩
 .have f:a.toNat<l.length:=A7;have j:lH (kX l a) l.length:=c.2.2 a.toNat f;obtain⟨⟨_,_,_,k,_,b,m,_⟩,n⟩:=j.2 d;rcases h with⟨_,rfl⟩|⟨p,⟨i,q,_,_,⟨_,rfl⟩|⟨y,rfl⟩⟩|⟨_,r,s,rfl⟩⟩
  .exact⟨λe=>by simp[b_.none] at e,λe=>by simp[b_.none] at e⟩
  .refine⟨λ_ e=>by simp at e,λ_=>?_⟩;have:=(k i (by rw[<-p.1];exact q)).1.1;show 7<=(jY (kX l a) i).size;unfold jY;rw[ByteArray.size_append];show 7<=6+_;omega
  .exact⟨λ_ _=>⟨by show 0<=(kX l a).fall;omega,m.2⟩,λe=>by simp at e⟩
  .refine⟨λ_ _=>?_,λe=>by simp at e⟩;show 0<=r/\r<l.length;rcases s with⟨_,rfl⟩ | ⟨_,⟨t,v,_,_,rfl⟩ | ⟨_,rfl⟩⟩
   .exact b
   .exact (n t v).2
   .exact b
theorem Fh(s:Xj)(xs:List Xq):(bQ s xs).code=0:=by
 unfold bQ
 split
 .split <;> rfl
 .rfl
structure Qz.Good (Kj:List Qq) (r:Qz):Prop where
 act:NC Kj r
 lo:0<=r.Zj
 hi:r.Zj<=20
 tl:(r.texts.length:Int)<=5*r.Zj
 ts:∀t∈r.texts,t.size<=200
 tx:r.text.size<=200
 stp:∀A,Q_ Kj r.name=some A->r.over=false->r.Zj≠0->(stepOf A r.at').fin=false
def dw(Kj:List Qq)(σ:Env):Prop:=∀n r,σ n=some r->r.name=n/\r.Good Kj
theorem IR{n:Ps}(h:n.size<=20):(rY n).size<=200:=by
 unfold rY;rw[ByteArray.size_append];show 3+n.size<=200;omega
variable {Kj : List Qq}
theorem xE{σ:Env}{n:Ps}{x:Xq}(b:dw Kj σ)(c:n.size<=20)(h:aP (Q_ Kj) σ n=some x):x.text.size<=200:=by
 unfold aP at h
 split at h
 .simp only[OE] at h;subst h;exact IR c
 .split at h
  .rename_i r hr
   split at h
   .simp only[OE] at h;subst h;exact (b n r hr).2.tx
   .cases h
  .cases h
theorem p_{W:bR}{σ:Env}{p:Xq->Prop}:∀{l:List Ps} {xs:List Xq},(∀n∈l,∀x,aP W σ n=some x->p x)->Yq W σ l=some xs->xs.length=l.length/\∀x∈xs,p x
 | [],xs,_,h=>by
  simp only[Yq,OE] at h;subst h;exact⟨rfl,λx f=>by cases f⟩
 | a :: l,xs,hp,h=>by
  unfold Yq at h;cases b:aP W σ a with
  | none=>simp[b] at h
  | some x=>
   cases c:Yq W σ l with
   | none=>simp[b,c] at h
   | some ys=>
    simp only[b,c,OE] at h;subst h;obtain⟨i,j⟩:=p_ (p:=p) (λn k=>hp n (Oi _ k)) c;refine⟨by simp[i],λy d=>?_⟩;rcases OL.1 d with rfl | d
    .exact hp a A9 y b
    .exact j y d
theorem rZ{σ:Env}{s:Xj}(b:dw Kj σ)(c:∀n∈s.asks,n.size<=20)(h:Yq (Q_ Kj) σ s.asks=some xs):yw s xs/\∀x∈xs,x.text.size<=200:=by
 obtain⟨d,a⟩:=p_ (p:=λx=>x.text.size<=200) (λn e x f=>xE b (c n e) f) h;refine⟨⟨d,λ⟨i,j,k⟩=>?_⟩,a⟩;have:=a (xs.getD i Xq.zero) (by simp[List.getD,j]);unfold pU at k;omega
theorem ja{A:eY}(e:gW A){i:Int}(h:0<=i)(k:i<A.steps.length):(stepOf A i).asks.length<=5/\∀n∈(stepOf A i).asks,jo n:=by
 have b:lH (stepOf A i) A.steps.length:=e.2.2 i.toNat A7;cases c:(stepOf A i).fin with
 | true=>
  have:=(b.1 c).1;refine⟨A7,λn a=>?_⟩;rw[Pj this] at a;cases a
 | false=>
  have:=(b.2 c).1;refine⟨this.2.2.1,λn a=>?_⟩;obtain⟨j,d,f⟩:=Oc a;have:=(this.2.2.2.1 j d).1;simp only[List.getD,NV d,f,Ph] at this;exact this
theorem AY{s:Xj}{i:Nat}(h:∀n∈s.asks,n.size<=20):(jY s i).size<=200:=by
 unfold jY;rw[ByteArray.size_append];show 6+_<=200;by_cases a:i<s.asks.length
 .have:=h (s.asks.getD i ByteArray.empty) (by simp[List.getD,a]);omega
 .have e:s.asks.getD i ByteArray.empty=ByteArray.empty:=by simp[List.getD,a]
  rw[e]
  decide
theorem LH(give:Ps)(l:List Ps):(jl give l).size<=200:=by
 show (nu give.data.toList (texts l)).toArray.size<=200;unfold nu
 split
 .simp
 .split
  .simpa using ‹_›
  .simp[iK]
theorem r_(xs:List Xq):(aW xs).length<=xs.length:=by
 unfold aW;rw[OY];exact List.length_filter_le _ _
theorem x_{t:Ps}(h:t∈aW xs):∃x∈xs,x.text=t:=by
 unfold aW at h;rw[Oq] at h;obtain⟨x,b,e⟩:=h;exact⟨x,(List.mem_filter.1 b).1,e⟩
theorem vK{A:eY}{r:Qz}(a:Q_ Kj r.name=some A)(b:0<=r.at')(c:r.at' < A.steps.length)(lo:0<=r.Zj)(hi:r.Zj<20)(d:(r.texts.length:Int)<=5*(r.Zj+1))(ts:∀t∈r.texts,t.size<=200)(e:r.text.size<=200):(bK A r).1.Good Kj:=by
 unfold bK;cases f:(stepOf A r.at').fin with
 | true=>
  simp only[if_true];exact⟨⟨A,a,b,c⟩,by show 0<=r.Zj+1;omega,by show r.Zj+1<=20;omega,d,ts,LH _ _,λ_ _ h=>by simp at h⟩
 | false=>
  simp only[Bool.false_eq_true,if_false];refine⟨⟨A,a,b,c⟩,by show 0<=r.Zj+1;omega,by show r.Zj+1<=20;omega,d,ts,e,λi j _ _=>?_⟩;have:A=i:=OQ (a.symm.trans j);subst this;exact f
theorem dm{σ:Env}{r:Qz}(y:aX (Q_ Kj))(z:dw Kj σ)(h:r.Good Kj)(j:aZ (Q_ Kj) σ r):(Y_ (Q_ Kj) σ r).1.Good Kj:=by
 obtain⟨A,b,d,e⟩:=h.act;have k:=(y _ _ b).1;unfold Y_;rw[b];simp only;by_cases f:r.Zj=0
 .rw[Pe f];have:=h.tl;exact vK b d e h.lo A7 A7 h.ts h.tx
 .rw[Pf f];rcases j.2 with B|⟨R,a,l,m⟩
  .exact Pg B f
  .rw[b] at l;cases l;rw[m];simp only;have S:=h.lo;have T:=h.hi;have U:=h.tl;by_cases p:r.Zj=20
   .rw[Pe p];exact⟨⟨A,b,d,e⟩,h.lo,h.hi,h.tl,h.ts,by show gX.size<=200;decide,λ_ _ h=>by simp at h⟩
   .rw[Pf p];obtain⟨C,D⟩:=ja k d e;have q:∀n∈(stepOf A r.at').asks,n.size<=20:=λn E=>(D n E).2.1
    obtain⟨s,F⟩:=rZ z q m;have G:=jc s;have V:mK A.cost A.steps r.at' a (bQ (stepOf A r.at') a):= .inr ⟨⟨k,⟨d,e⟩,h.stp A b j.1 f⟩,G⟩;by_cases c:(bQ (stepOf A r.at') a).over=true
    .rw[Pe c];refine⟨⟨A,b,d,e⟩,by show 0<=r.Zj+1;omega,by show r.Zj+1<=20;omega,by show (r.texts.length:Int)<=5*(r.Zj+1);omega,h.ts, ?_,λ_ _ h=>by simp at h⟩;show (bQ (stepOf A r.at') a).text.size<=200;unfold bQ
     split
     .split
      .exact AY q
      .show (⟨#[]⟩:Ps).size<=200;decide
     .show (⟨#[]⟩:Ps).size<=200;decide
    .rw[Pf c];have t:0<=(bQ (stepOf A r.at') a).at'/\(bQ (stepOf A r.at') a).at' < A.steps.length:=by
      have H:(stepOf A r.at').fin=false:=h.stp A b j.1 f;have I:lH (stepOf A r.at') A.steps.length:=k.2.2 r.at'.toNat A7;obtain⟨⟨_,_,_,_,_,v,J,_⟩,K⟩:=I.2 H;unfold bQ at c⊢
      split
      .rename_i w hi'
       rw[hi'] at c;simp only at c;by_cases x:(stepOf A r.at').fall= -1
       .rw[Pe x] at c;simp at c
       .rw[Pf x];exact⟨by show 0<=(stepOf A r.at').fall;omega,J.2⟩
      .show 0<=(if a.length=0 then _ else _)/\(if a.length=0 then _ else _)<_
       split
       .exact v
       .rcases uH (mJ a (stepOf A r.at').on) (stepOf A r.at').els (stepOf A r.at').cases with⟨w,L,_,_,M⟩|⟨_,N⟩
        .rw[M];exact (K w L).2
        .rw[N];exact v
     have W:=r_ a;have X:a.length<=5:=by rw[s.1];exact C
     refine vK (r:={r with texts:=r.texts++aW a,at':=(bQ (stepOf A r.at') a).at'}) b t.1 t.2 h.lo (by show r.Zj<20;omega) ?_ (λO i=>?_) h.tx
     .show ((r.texts++aW a).length:Int)<=5*(r.Zj+1);rw[OD]
      push_cast
      omega
     .rcases N_.1 i with i|i
      .exact h.ts O i
      .obtain⟨P,Q,rfl⟩:=x_ i;exact F P Q
def uy(Kj:List Qq):Prop:=∀y∈Kj,∀s∈y.steps,s.asks.length<=1000/\∀x∈s.asks,x.size<=1000
def dh(W:bR):List Qz->List Ps->List Qz
 | l,[]=>l
 | l,a :: bs=>dh W (if (W a).isSome=true/\(Qj l a).isNone=true then l++ [Qz.fresh a] else l) bs
theorem Jm(l:List Qz)(x:Qz)(m:Ps):Qj (l++ [x]) m=match Qj l m with | some r=>some r | none=>if x.name=m then some x else none:=by
 unfold Qj;rw[List.find?_append];cases h:l.find? λr=>decide (r.name=m) with
 | some r=>rfl
 | none=>
  by_cases e:x.name=m
  .simp[e]
  .simp[e]
theorem nA(W:bR):∀(bs:List Ps) (l:List Qz) (m:Ps),Qj (dh W l bs) m=match Qj l m with | some r=>some r | none=>if dM bs m=true/\(W m).isSome=true then some (Qz.fresh m) else none
 | [],l,m=>by
  show Qj l m=_;cases Qj l m with
  | some r=>rfl
  | none=>simp[dM]
 | a :: bs,l,m=>by
  show Qj (dh W (if (W a).isSome=true/\(Qj l a).isNone=true then l++ [Qz.fresh a] else l) bs) m=_;rw[nA W bs];have d:dM (a :: bs) m=true↔a=m\/dM bs m=true:=by simp[dM]
  by_cases e:(W a).isSome=true/\(Qj l a).isNone=true
  .rw[Pe e,Jm];cases k:Qj l m with
   | some r=>rfl
   | none=>
    simp only;by_cases h:a=m
    .subst h;have i:(Qz.fresh a).name=a:=rfl;rw[Pe i];simp only;rw[Pe ⟨d.2 (.inl rfl),e.1⟩]
    .have i:(Qz.fresh a).name≠m:=h;rw[Pf i];simp only;by_cases b:dM bs m=true/\(W m).isSome=true
     .rw[Pe b,Pe ⟨d.2 (.inr b.1),b.2⟩]
     .rw[Pf b,Pf];rintro⟨j,f⟩;rcases d.1 j with c|c
      .exact h c
      .exact b ⟨c,f⟩
  .rw[Pf e];cases k:Qj l m with
   | some r=>rfl
   | none=>
    simp only;by_cases b:dM bs m=true/\(W m).isSome=true
    .rw[Pe b,Pe ⟨d.2 (.inr b.1),b.2⟩]
    .rw[Pf b,Pf];rintro⟨j,f⟩;rcases d.1 j with c|c
     .subst c;exact e ⟨f,by rw[k];rfl⟩
     .exact b ⟨c,f⟩
theorem lw(W:bR):∀(bs:List Ps) (l:List Qz),(∀x∈l,∀y∈l,x.name=y.name->x=y)->∀x∈dh W l bs,∀y∈dh W l bs,x.name=y.name->x=y
 | [],_,h=>h
 | a :: bs,l,h=>by
  show∀x∈dh W (if (W a).isSome=true/\(Qj l a).isNone=true then l++ [Qz.fresh a] else l) bs,∀y∈dh W (if (W a).isSome=true/\(Qj l a).isNone=true then l++ [Qz.fresh a] else l) bs,_;refine lw W bs _ ?_;by_cases f:(W a).isSome=true/\(Qj l a).isNone=true
  .rw[Pe f];have i:∀x∈l,x.name≠a:=λx b e=>by
    have:=(qO h).2 ⟨b,e⟩;rw[this] at f;simp at f
   intro x b y d e;rcases N_.1 b with b | b <;> rcases N_.1 d with d | d
   .exact h x b y d e
   .rw[NZ] at d;subst d;exact Pg e (i x b)
   .rw[NZ] at b;subst b;exact Pg e.symm (i y d)
   .rw[NZ] at b d;rw[b,d]
  .rw[Pf f];exact h
def doL(W:bR)(l:List Qz)(r:Qz):List Qz:=(dh W (dF l (Y_ W (Qj l) r).1) (Y_ W (Qj l) r).2).foldl dF []
variable {W : bR} {l : List Qz}
theorem BJ{r:Qz}(h:dz l):dz (doL W l r):=(kG _ [] List.Pairwise.nil (lw W _ _ (sQ (lC h)))).1
theorem tN{n:Ps}{r:Qz}(h:dz l)(a:Qj l n=some r):Qj (doL W l r)=doX W (Qj l) n:=by
 funext m
 have c:r.name=n:=(aN a).2;have d:(Y_ W (Qj l) r).1.name=n:=by rw[bP];exact c
 unfold doL;rw[(kG _ [] List.Pairwise.nil (lw W _ _ (sQ (lC h)))).2 m,nA,ik h,ed a,d];by_cases e:m=n
 .rw[Pe e,Pe e]
 .rw[Pf e,Pf e];cases f:Qj l m with
  | some x=>rfl
  | none=>
   simp only;by_cases b:dM (Y_ W (Qj l) r).2 m=true/\(W m).isSome=true
   .rw[Pe b]
   .rw[Pf b]
    rfl
structure dR (Kj:List Qq) (l:List Qz):Prop where
 asc:dz l
 good:∀r∈l,r.Good Kj
variable {Kj : List Qq}
theorem dR.env(h:dR Kj l):dw Kj (Qj l):=λ_n r a=>⟨(aN a).2,h.good r (aN a).1⟩
theorem gD(c:aX (Q_ Kj)){a:Ps}(h:(Q_ Kj a).isSome=true):(Qz.fresh a).Good Kj:=by
 obtain⟨A,b⟩:=Om.1 h;have e:=(c a A b).1.2.1.1;exact⟨⟨A,b,Int.le_refl _,by show (0:Int)<A.steps.length;omega⟩,Int.le_refl _,by show (0:Int)<=20;omega,by show ((([]:List Ps).length:Nat):Int)<=5*0;simp,λt d=>(by cases d),by show (⟨#[]⟩:Ps).size<=200;decide,λ_ _ _ h=>Pg rfl h⟩
theorem yn(c:aX (Q_ Kj)){r:Qz}(h:dR Kj l)(d:r∈l)(i:aZ (Q_ Kj) (Qj l) r):dR Kj (doL (Q_ Kj) l r):=by
 refine⟨BJ h.asc,λx j=>?_⟩;have e:=bE h.asc d;have a:=bE (BJ (W:=Q_ Kj) (r:=r) h.asc) j;rw[tN h.asc e,ed e] at a;by_cases f:x.name=r.name
 .rw[Pe f] at a;cases a;exact dm c h.env (h.good r d) i
 .rw[Pf f] at a;cases b:Qj l x.name with
  | some y=>
   rw[b] at a;cases a;exact h.good x (aN b).1
  | none=>
   rw[b] at a;simp only at a
   split at a
   .rename_i hc2
    have k:Qz.fresh x.name=x:=OQ a;rw[<-k];exact gD c hc2.2
   .cases a
inductive fM (W:bR) (σ:Env):List Qz->List Ps->Prop
 | nil:fM W σ [] []
 | yes {l:List Qz} {ns:List Ps} {r:Qz} (h:fM W σ l ns) (hr:aZ W σ r):fM W σ (l++ [r]) (ns++ [r.name])
 | no {l:List Qz} {ns:List Ps} {r:Qz} (h:fM W σ l ns) (hr:¬aZ W σ r):fM W σ (l++ [r]) ns
variable {ns : List Ps}
theorem fM.mem{σ:Env}(h:fM W σ l ns)(n:Ps):n∈ns↔∃r∈l,r.name=n/\aZ W σ r:=by
 induction h with
 | nil=>simp
 | yes h hr ih=>
  rename_i l ns r
  rw[N_,ih,NZ];constructor
  .rintro (⟨x,a,b⟩|rfl)
   .exact⟨x,N_.2 (.inl a),b⟩
   .exact⟨r,N_.2 (.inr A9),rfl,hr⟩
  .rintro⟨x,a,b,d⟩;rcases N_.1 a with a|a
   .exact .inl ⟨x,a,b,d⟩
   .rw[NZ] at a;subst a;exact .inr b.symm
 | no h hr ih=>
  rename_i l ns r
  rw[ih];constructor
  .rintro⟨x,a,b⟩;exact⟨x,N_.2 (.inl a),b⟩
  .rintro⟨x,a,b,d⟩;rcases N_.1 a with a|a
   .exact⟨x,a,b,d⟩
   .rw[NZ] at a;subst a;exact Pg d hr
theorem fM.ready(h:fM W (Qj l) l ns)(c:dz l)(n:Ps):n∈ns↔bi W (Qj l) n:=by
 rw[h.mem];constructor
 .rintro⟨r,a,rfl,b⟩;exact⟨r,bE c a,b⟩
 .rintro⟨r,a,d⟩;obtain⟨b,e⟩:=aN a;exact⟨r,b,e,d⟩
theorem fM.len{σ:Env}(h:fM W σ l ns):ns.length<=l.length:=by
 induction h with
 | nil=>exact NQ _
 | yes _ _ ih=>simp only[OD,Pm];omega
 | no _ _ ih=>simp only[OD,Pm];omega
def eT(Kj:List Qq)(Kk:List Ps):List Qz:=(dh (Q_ Kj) [] Kk).foldl dF []
theorem xh(Kj:List Qq)(Kk:List Ps):dz (eT Kj Kk):=(kG _ [] List.Pairwise.nil (lw (Q_ Kj) Kk [] (λ_ h=>by cases h))).1
theorem fQ(Kj:List Qq)(Kk:List Ps)(n:Ps):Qj (eT Kj Kk) n=if dM Kk n=true/\(Q_ Kj n).isSome=true then some (Qz.fresh n) else none:=by
 unfold eT;rw[(kG _ [] List.Pairwise.nil (lw (Q_ Kj) Kk [] (λ_ h=>by cases h))).2 n,nA];show (match (if dM Kk n=true/\(Q_ Kj n).isSome=true then some (Qz.fresh n) else none) with | some r=>some r | none=>Qj [] n)=_
 split
 .rename_i r h;rw[h]
 .rename_i h;rw[h];rfl
theorem fH(c:aX (Q_ Kj))(Kk:List Ps):dR Kj (eT Kj Kk):=by
 refine⟨xh Kj Kk,λr d=>?_⟩;have a:=bE (xh Kj Kk) d;rw[fQ] at a
 split at a
 .rename_i h2
  have e:Qz.fresh r.name=r:=OQ a;rw[<-e];exact gD c h2.2
 .cases a
theorem dR.wf(h:dR Kj l):WfX (Q_ Kj) (Qj l):=λn r c=>by
 obtain⟨d,b⟩:=aN c;have a:=h.good r d;obtain⟨A,e,_⟩:=a.act;exact⟨b,by rw[<-b,e];rfl,a.lo,a.hi⟩
theorem jA{n:Ps}(h:(Q_ Kj n).isSome=true):n∈Kj.map (·.name):=by
 obtain⟨A,c⟩:=Om.1 h;obtain⟨k,a,e,_⟩:=gY c;rw[Oq];refine⟨Kj.getD k Qq.zero, ?_,e⟩;simp only[List.getD,NV a,Ph];exact Oa a
def jX(Kj:List Qq)(l:List Qz):Nat:=cZ (Kj.map (·.name)) (Qj l)
theorem Lx{n:Ps}{r:Qz}(h:dR Kj l)(b:Qj l n=some r)(c:aZ (Q_ Kj) (Qj l) r):jX Kj (doL (Q_ Kj) l r)<jX Kj l:=by
 unfold jX;rw[tN h.asc b];exact (kK h.wf ⟨r,b,c⟩ _).2 (jA (h.wf n r b).web)
theorem AA(h:dz l):(l.map (·.name)).Nodup:=by
 rw[List.Nodup,List.pairwise_map];exact h.imp λb=>dU b
theorem dR.len(h:dR Kj l):l.length<=Kj.length:=by
 have c:=List.Nodup.length_le_of_subset (AA h.asc) (l₂:=Kj.map (·.name)) (λn d=>by
  obtain⟨r,e,rfl⟩:=Oq.1 d;exact jA (h.wf r.name r (bE h.asc e)).web)
 simpa using c
def Nw(Kj:List Qq)(Kk:List Ps)(sl:List Qz):Prop:=
 ∃k L,dR Kj L/\bB (Behind (W:=Q_ Kj) fI (Qj sl)) (doX (Q_ Kj)) (Qj (eT Kj Kk)) (Qj L) k/\AtEnd (Behind (W:=Q_ Kj) fI (Qj sl)) (Qj L)/\L=sl
theorem Tryz.eP :(prog.info? 9).map (λi=>(i.zero,i.size,i.bytes))=some (some (.string ByteArray.empty),1,16):=C9
variable {w : Pv}
theorem vT{base:Nat}{t:TypeId}{v:Pw}{n:Nat}{l:List Ps}(h:w.ownsRow base t 1 v n (l.map Value.string)):∃a b,v= .slice a l.length b/\l.length<=b/\Strs w a l:=by
 have d:n=l.length:=by have:=h.1;simp at this;omega
 subst d;rcases h.2 with⟨rfl,e⟩|⟨g,b,k,rfl,m,f,j,_,_,_⟩
 .exact⟨none,0,by rw[e],A7,λi c=>A7⟩
 .refine⟨_,b,rfl,j,λi c=>⟨g,0,rfl,aO f, ?_⟩⟩;have:=h.cells (g:=g) rfl i (.string (l.getD i ByteArray.empty)) (by simp[List.getD,c]);rw[OI] at this;exact this
theorem mD(l:List Xq)(x:Xq):aW (l++ [x])=aW l++if x.fail=true then [] else [x.text]:=by
 unfold aW;rw[List.filter_append,Pi];cases a:x.fail <;> simp[a]
def JA(xs:List Xq)(w':Pv)(e:Ending):Prop:=∃(g c:Nat),e= .returned (.b g (aW xs).length c)/\Strs w' (some ⟨g,0,none⟩) (aW xs)
theorem JF(w:Pv)(d:Pt)(G:Nat)(xs:List Xq)(a1:xs.length<=1000)(H:eU w d xs):
  Calls prog 124 #[.slice d xs.length G] w λe w'=>JA xs w' e/\K_ w w':=by
 have v:K_ w (w.alloc (.cells #[] 9)):=ah _ _;have y:Hid ((w.alloc (.cells #[] 9)).ownsRow w.heap.size 9 1 (.b w.heap.size 0 0) 0 (([]:List Ps).map Value.string)):=Ov w #[] 0 (NQ _) (NS _) rfl;go_enter func124,ntmps124
 go_wp2
 go_loopg [3,4] xs.length (λI J K wr=>∃(i:Nat) (g a:Nat),J= .b g (aW (xs.take i)).length a/\K= .a (i:Int)/\i+I=xs.length/\(aW (xs.take i)).length<=i/\K_ w wr/\Hid (wr.ownsRow w.heap.size 9 1 (.b g (aW (xs.take i)).length a) (aW (xs.take i)).length ((aW (xs.take i)).map Value.string)))
 case atStart=>exact⟨0,w.heap.size,0,rfl,rfl,A7,NQ _,v,y⟩
 case round=>
  clear y v;obtain⟨i,g,a,rfl,rfl,hi,L,h,f⟩:=hrel;by_cases a2:(i:Int)<(xs.length:Int)
  .have p:i<xs.length:=A7;obtain⟨b,o,rfl,hb,j⟩:=(H.kept h) i p;obtain⟨x,q⟩:=ai (xs.getD i Xq.zero);rw[<-q] at j;have r:=j 0 _ rfl;have t1:=j 1 _ rfl;rw[OJ] at r;have k:Hid (xs.take (i+1)=xs.take i++ [x]):=by show _=_;rw[NY p,q];simp[List.getD,p]
   obtain⟨c,s⟩:=ai (aW (xs.take i));rw[<-s] at L f⊢;have z:=Kz s;clear j q s;cases l:x.fail
   .rw[l] at r;have t:K_ wr (wr.alloc (.cells #[.string x.text] 9)):=ah _ _;have A:=Kz (ak f.o t);have B:=Kz (h.trans t);have M:w.heap.size<=(wr.alloc (.cells #[.string x.text] 9)).heap.size:=B.out.size;have N:Hid (∀m u,([.string x.text]:List Pw)[m]? =some u->(wr.alloc (.cells #[.string x.text] 9)).cell? ((⟨wr.heap.size,0,none⟩:Addr).add m)=some u):=λm u n=>by rw[OI];exact Xz wr #[.string x.text] 9 m u n
    have O:Hid (∀u∈([.string x.text]:List Pw),u.oneCell'=true):=λu n=>by simp only[OL,OM,or_false] at n;subst n;rfl
    obtain⟨P,Q,R,S,T⟩:=aY Tryz.eP;clear t;go_wp2_with (at_builtin;refine wpList_append_lies _ rfl (.tmp 18) (.tmp 24) 26 rfl w.heap.size 9 P _ 1 16 underlying26 Q R S T rfl A8 (.b g c.length a) c.length (c.map Value.string) rfl A.o ⟨wr.heap.size,0,none⟩ 1 1 [.string x.text] rfl rfl N.o O.o A7 D5 A7 M _ rfl ?_;intro U V w6 C D W X;have Y:=aL B.out (NQ _) A.o D;have Z:=Kz C;clear C D W X)
    go_roundg (gk-1)
    case measure=>omega
    case rel=>
     have e:aW (xs.take (i+1))=c++ [x.text]:=by rw[k.o,mD,<-z.o,l];rfl
     exact⟨i+1,U,V,by rw[e,OD];rfl,C8,A7,by rw[e,OD];show c.length+1<=i+1;omega,Y,Kz (by rw[e,Pi,OD];exact Z.o)⟩
   .rw[l] at r;go_wp2
    go_roundg (gk-1)
    case measure=>omega
    case rel=>
     have e:aW (xs.take (i+1))=c:=by rw[k.o,mD,<-z.o,l];simp
     exact⟨i+1,g,a,by rw[e],C8,A7,by rw[e];omega,h,Kz (by rw[e];exact f.o)⟩
  .have a0:i=xs.length:=A7;have e:aW (xs.take i)=aW xs:=by rw[a0,Ox]
   rw[e] at f⊢;obtain⟨d2,c2,E,a3,F⟩:=vT f.o;simp only[OG,true_and] at E;obtain⟨rfl,rfl⟩:=E;have k:=Kz F;clear F e;go_wp2
   go_ret
   exact⟨⟨g,a,rfl,k.o⟩,h⟩
theorem Tryz.jM :(prog.info? 40).map (·.size)=some 7:=C9
theorem nG{b o n:Nat}{cs:List Pw}(h:w.rangeAt b 0 cs)(d:Row w b n)(f:o<n)(v:Pw):(w.setCell ⟨b,o,none⟩ v).rangeAt b 0 (cs.set o v):=by
 intro j u a;rw[Ow];rw[List.getElem?_set] at a;by_cases e:o=j
 .subst e;rw[Pe rfl] at a;by_cases c:o<cs.length
  .rw[Pe c] at a;cases a;exact bu d f _
  .rw[Pf c] at a;cases a
 .rw[Pf e] at a;rw[Xx e];have:=h j u a;rw[Ow] at this;exact this
structure vS (w:Pv) (b:Nat) (r:Qz) (xa:Pt) (xc:Nat):Prop where
 row:aB w b 40 7
 rng:w.rangeAt b 0 (r.cells xa xc)
variable {xa : Pt}
theorem vS.all{b:Nat}{r:Qz}{xc:Nat}(h:vS w b r xa xc):w.cell? ⟨b,0,none⟩=some (.string r.name)/\w.cell? ⟨b,1,none⟩=some (.bool r.over)/\w.cell? ⟨b,2,none⟩=some (.bool r.fail)/\w.cell? ⟨b,3,none⟩=some (.string r.text)/\w.cell? ⟨b,4,none⟩=some (.a r.at')/\w.cell? ⟨b,5,none⟩=some (.a r.Zj)/\w.cell? ⟨b,6,none⟩=some (.slice xa r.texts.length xc):=by
 have a:∀j v,(r.cells xa xc)[j]? =some v->J4 w b j v:=λj v f=>by have:=h.rng j v f;rw[Ow] at this;exact this
 exact⟨a 0 _ rfl,a 1 _ rfl,a 2 _ rfl,a 3 _ rfl,a 4 _ rfl,a 5 _ rfl,a 6 _ rfl⟩
theorem vS.kept{w':Pv}{b:Nat}{r:Qz}{xc:Nat}(h:vS w b r xa xc)(k:K_ w w'):vS w' b r xa xc:=⟨h.row.kept k,k.range h.row.lt h.rng⟩
theorem vS.put{b:Nat}{r r':Qz}{xa':Pt}{xc xc' o:Nat}{v:Pw}(h:vS w b r xa xc)(c:o<7)(e:r'.cells xa' xc'= (r.cells xa xc).set o v):vS (w.setCell ⟨b,o,none⟩ v) b r' xa' xc':=⟨h.row.set _,by rw[e];exact nG h.rng h.row.row c v⟩
section
variable {n0 : Nat} {w wr w' : Pv} {ab : Nat} {cost : Int} {sa : Pt} {sn sc : Nat} {r r' : Qz} {xa xa' : Pt} {xc xc' : Nat}
end
theorem bJ{g:Nat}(a:w.heap.size<=g):∀(vs:List Pw) (o:Nat) {u:Pv},K_ w u->K_ w (u.setCells g o vs)
 | [],_,_,h=>h
 | v :: r,o,_,h=>by rw[World.setCells];exact bJ a r (o+1) (Below.setCell h (p:=⟨g,o,none⟩) a v)
theorem Tryz.yP :(prog.info? 40).map (λi=>(i.zero,i.size,i.bytes))=some (some (.agg #[.string ⟨#[]⟩,.bool false,.bool false,.string ⟨#[]⟩,.a 0,.a 0,J3]),7,80):=C9
def pE(w:Pv)(P:Nat->Prop)(a:Pt)(l:List Qz):Prop:=
 ∀i,i<l.length->∃b o xa xc,a=some ⟨b,o,none⟩/\b<w.heap.size/\w.rangeAt b (o+i*7) ((l.getD i Qz.zero).cells xa xc)/\Strs w xa (l.getD i Qz.zero).texts/\(xa=none->xc=0)/\(∀ad:Addr,xa=some ad->P ad.block)
variable {l : List Qz} {P : Nat -> Prop} {w : Pv}
theorem pE.kept{w':Pv}{a:Pt}(h:pE w P a l)(k:K_ w w'):pE w' P a l:=by
 intro i c;obtain⟨d,o,e,f,j,b,m,n,p⟩:=h i c;exact⟨d,o,e,f,j,NR b k.size,k.range b m,n.kept k,p⟩
theorem pE.runs{a:Pt}(h:pE w P a l):fw w a l:=by
 intro i c;obtain⟨b,o,d,f,e,j,k,m,n,_⟩:=h i c;exact⟨b,o,d,f,e,j,k,m,n⟩
def df(w:Pv)(P:Nat->Prop)(xs:List Pw)(l:List Qz):Prop:=xs.length=l.length*7/\∀i,i<l.length->∃xa xc,(xs.drop (i*7)).take 7= (l.getD i Qz.zero).cells xa xc/\Strs w xa (l.getD i Qz.zero).texts/\(xa=none->xc=0)/\(∀ad:Addr,xa=some ad->P ad.block)
theorem df.nil(w:Pv)(P:Nat->Prop):df w P [] []:=⟨rfl,λi a=>by simp at a⟩
variable {xs : List Pw}
theorem df.kept{w':Pv}(h:df w P xs l)(k:K_ w w'):df w' P xs l:=⟨h.1,λi a=>by obtain⟨b,c,d,e,f⟩:=h.2 i a;exact⟨b,c,d,e.kept k,f⟩⟩
theorem df.snoc{r:Qz}{xa:Pt}{xc:Nat}(h:df w P xs l)(e:Strs w xa r.texts)(f:xa=none->xc=0)(j:∀ad:Addr,xa=some ad->P ad.block):df w P (xs++r.cells xa xc) (l++ [r]):=by
 refine⟨by simp[h.1,Qz.cells];omega,λi c=>?_⟩;rw[OD] at c;simp only[OH,List.length_nil] at c;by_cases d:i<l.length
 .have a:(l++ [r]).getD i Qz.zero=l.getD i Qz.zero:=by simp[List.getD,OU d]
  have b:((xs++r.cells xa xc).drop (i*7)).take 7= (xs.drop (i*7)).take 7:=by
   rw[List.drop_append_of_le_length (by rw[h.1];omega),List.take_append_of_le_length (by rw[List.length_drop,h.1];omega)]
  rw[a,b];exact h.2 i d
 .obtain rfl:i=l.length:=A7;have a:(l++ [r]).getD l.length Qz.zero=r:=G9;have b:((xs++r.cells xa xc).drop (l.length*7)).take 7=r.cells xa xc:=by
   rw[<-h.1,List.drop_left]
   rfl
  rw[a,b];exact⟨xa,xc,rfl,e,f,j⟩
variable {base n : Nat}
theorem df.runs{w':Pv}{v:Pw}(b:w'.ownsRow base 40 7 v n xs)(h:df w P xs l)(k:K_ w w'):n=l.length/\∃a c,v= .slice a l.length c/\pE w' P a l:=by
 have p:n=l.length:=by have A:=b.1;have B:=h.1;omega
 subst p;refine⟨rfl, ?_⟩;rcases b.2 with⟨rfl,q⟩|⟨g,c,C,rfl,D,r,E,_,_,_⟩
 .exact⟨none,0,by rw[q],λi d=>A7⟩
 .refine⟨_,c,rfl,λi d=>?_⟩;obtain⟨s,t,e,x,y⟩:=h.2 i d;refine⟨g,0,s,t,rfl,aO r,(λj u f=>?_),x.kept k,y⟩;have z:j<7:=by have:=(NW.1 f).1;simpa[Qz.cells] using this
  have m:((xs.drop (i*7)).take 7)[j]? =some u:=by rw[e];exact f
  rw[List.getElem?_take,Pe z,List.getElem?_drop] at m;have:=b.cells (g:=g) rfl _ _ m;rw[OI] at this;rw[Ow] at this⊢;exact this
theorem GK{c p:Nat}{t:TypeId}{v u:Pw}{l:List Ps}(h:w.ownsRow base t 1 v n (l.map Value.string))(r:c<base):∃a b,v= .slice a l.length b/\Strs (w.setCell ⟨c,p,none⟩ u) a l/\(a=none->b=0)/\(∀d:Addr,a=some d->base<=d.block):=by
 have j:n=l.length:=by have:=h.1;simp at this;omega
 subst j;rcases h.2 with⟨rfl,k⟩|⟨g,b,s,rfl,m,q,x,_,_,_⟩
 .exact⟨none,0,by rw[k],(λi f=>A7),(λ_=>rfl),λd e=>by cases e⟩
 .refine⟨_,b,rfl,(λi f=>⟨g,0,rfl,by rw[size_setCell];exact aO q, ?_⟩),(λe=>by cases e),λd e=>by cases e;exact m⟩;have:=h.cells (g:=g) rfl i (.string (l.getD i ByteArray.empty)) (by simp[List.getD,f]);rw[OI] at this;rw[Zk A7];exact this
def Mr(w2 wr:Pv)(P:Nat->Prop)(out:Pw)(p:List Qz×Bool):Prop:=∃xs,wr.ownsRow w2.heap.size 40 7 out p.1.length xs/\df w2 P xs p.1/\K_ w2 wr
def Mq(w w':Pv)(P:Nat->Prop)(v:Pw)(l:List Qz):Prop:=∃w2 xs,K_ w w2/\K_ w2 w'/\w'.ownsRow w2.heap.size 40 7 v l.length xs/\df w2 P xs l
theorem own_ne{b:Nat}{v:Pw}(c:aB w b 86 2)(h:w.ownsRow base 40 7 v n xs):some b≠v.ownBlock:=by
 rcases h.2 with⟨rfl,_⟩|⟨g,f,i,rfl,_,d,_⟩
 .intro e;cases e
 .intro e;simp only[Value.ownBlock,OE] at e;subst e;obtain⟨j,a,_⟩:=c;rw[d] at a;simp only[OE,Obj.cells.injEq] at a;exact Pg a.2.1 A8
theorem GY{size:Nat}{e:TypeId}{v:Pw}(h:w.ownsRow base e size v n xs){a o:Nat}(b:some a≠v.ownBlock)(u:Pw):(w.setCell ⟨a,o,none⟩ u).ownsRow base e size v n xs:=by
 refine⟨h.1, ?_⟩;rcases h.2 with c|⟨g,d,f,rfl,i,j,rest⟩
 .exact .inl c
 .refine .inr ⟨g,d,f,rfl,i, ?_,rest⟩;rw[Below.heap_setCell _ _ _ _ (λe=>b (by simp[Value.ownBlock,e]))];exact j
theorem xe(W:bR):∀(bs:List Ps) (l:List Qz) (n:Ps),dh W l (bs++ [n])=if (W n).isSome=true/\(Qj (dh W l bs) n).isNone=true then dh W l bs++ [Qz.fresh n] else dh W l bs
 | [],_l,_n=>rfl
 | _b :: bs,_l,n=>xe W bs _ n
theorem FC(W:bR)(l:List Qz){a:List Ps}{k:Nat}(h:k<a.length):dh W l (a.take (k+1))=if (W (a.getD k ByteArray.empty)).isSome=true/\(Qj (dh W l (a.take k)) (a.getD k ByteArray.empty)).isNone=true then dh W l (a.take k)++ [Qz.fresh (a.getD k ByteArray.empty)] else dh W l (a.take k):=by
 rw[NY h,xe];simp[List.getD,h]
theorem Ai(W:bR):∀(bs:List Ps) (l:List Qz),(dh W l bs).length<=l.length+bs.length
 | [],l=>by simp[dh]
 | b :: bs,l=>by
  have h:=Ai W bs (if (W b).isSome=true/\(Qj l b).isNone=true then l++ [Qz.fresh b] else l);show (dh W (if (W b).isSome=true/\(Qj l b).isNone=true then l++ [Qz.fresh b] else l) bs).length<=_
  split at h <;> rename_i hc
  .rw[Pe hc];simp at h⊢;omega
  .rw[Pf hc];simp at h⊢;omega
theorem Da(w:Pv)(a:Pt)(c:Nat)(l:List Qq)(b:Ps)(d:l.length<=1048576)(f:bN w a l)(h:(Q_ l b).isSome=true):
  Calls prog 37 #[.agg #[.slice a l.length c],.string b] w λe w'=>(∃r:Nat,e= .returned (.a (r:Int)))/\K_ w w':=by
 refine (iA w a c l b d f).mono ?_;rintro e w' ⟨⟨r,rfl,i⟩,k⟩;rcases i with⟨j,_,rfl,_⟩|⟨_,m⟩
 .exact⟨⟨j,rfl⟩,k⟩
 .rw[m] at h;cases h
theorem Jo(w:Pv)(a:Pt)(c:Nat)(l:List Qq)(b:Ps)(f:l.length<=1048576)(i:bN w a l)(h:¬(Q_ l b).isSome=true):
  Calls prog 37 #[.agg #[.slice a l.length c],.string b] w λe w'=>e= .returned (.a (-1))/\K_ w w':=by
 refine (iA w a c l b f i).mono ?_;rintro e w' ⟨⟨r,rfl,j⟩,k⟩;rcases j with⟨m,_,rfl,d,_⟩|⟨rfl,d⟩
 .rw[d] at h;exact Pg rfl h
 .exact⟨rfl,k⟩
theorem JQ(w:Pv)(b:Nat)(a:Pt)(n f:Nat)(d:Pt)(h:Nat)(l:List Qz)(c:Ps)(j:l.length<=1048576)(k:jb w b a n f d l.length h)(m:fw w d l)(i:(Qj l c).isNone=true):
  Calls prog 86 #[.c b,.string c] w λe w'=>(∃r:Int,e= .returned (.a r)/\r<0)/\w'=w:=by
 refine (Jf w b a n f d h l c j k m).mono ?_;rintro e w' ⟨⟨r,rfl,p⟩,q⟩;rcases p with⟨t,_,rfl,s,_⟩|⟨rfl,_⟩
 .rw[s] at i;cases i
 .exact⟨⟨-1,rfl,A7⟩,q⟩
theorem JP(w:Pv)(b:Nat)(a:Pt)(n f:Nat)(d:Pt)(h:Nat)(l:List Qz)(c:Ps)(j:l.length<=1048576)(k:jb w b a n f d l.length h)(m:fw w d l)(i:¬(Qj l c).isNone=true):
  Calls prog 86 #[.c b,.string c] w λe w'=>(∃r:Nat,e= .returned (.a (r:Int)))/\w'=w:=by
 refine (Jf w b a n f d h l c j k m).mono ?_;rintro e w' ⟨⟨r,rfl,p⟩,q⟩;rcases p with⟨s,_,rfl,_⟩|⟨_,t⟩
 .exact⟨⟨s,rfl⟩,q⟩
 .rw[t] at i;exact Pg rfl i
theorem zQ{l l':List Ps}(b:l.length=l'.length)(h:∀j,j<l.length->l.getD j ByteArray.empty=l'.getD j ByteArray.empty):l=l':=by
 refine List.ext_getElem b λi a e=>?_
 have:=h i a;simpa[List.getD,a,e] using this
def jB(picks:List Int)(i:Nat):Int:=if picks=[] then 0 else if picks.getD (i % picks.length) 0<0 then 0 else picks.getD (i % picks.length) 0
theorem Kb(a:List Int)(i:Nat):0<=jB a i:=by
 unfold jB
 split
 .exact Int.le_refl _
 .split <;> omega
def mU(picks:List Int)(i n:Nat):Nat:=(jB picks i).toNat % n
theorem ul(a:List Int)(i:Nat)(h:0<n):mU a i n<n:=Nat.mod_lt _ h
inductive vV (Kj:List Qq) (picks:List Int):List Qz->List Ps->List Qz->List Ps->Prop
 | stop {T:List Qz} {D:List Ps} (h:fM (Q_ Kj) (Qj T) T []):vV Kj picks T D T D
 | step {T T':List Qz} {D D' ns:List Ps} {r:Qz} (h:fM (Q_ Kj) (Qj T) T ns) (hn:0<ns.length) (hr:Qj T (ns.getD (mU picks D.length ns.length) ByteArray.empty)=some r)
   (hw:vV Kj picks (doL (Q_ Kj) T r) (D++ [ns.getD (mU picks D.length ns.length) ByteArray.empty]) T' D'):vV Kj picks T D T' D'
theorem Fu(x:Option Qz):mi x<=23:=by
 cases x with
 | none=>exact NQ _
 | some r=>
  show (if r.over=true then 0 else 22-r.Zj.toNat)<=23
  split <;> omega
theorem uZ(σ:Env):∀l:List Ps,cZ l σ<=23*l.length
 | []=>NS _
 | n :: l=>by
  have h:=uZ σ l;have c:=Fu (σ n);have e:cZ (n :: l) σ=mi (σ n)+cZ l σ:=by simp[cZ]
  rw[e,OH];omega
theorem AQ(Kj:List Qq)(l:List Qz):jX Kj l<=23*Kj.length:=by
 have h:=uZ (Qj l) (Kj.map (·.name));rw[OY] at h;exact h
structure Eu (Kj:List Qq) (picks:List Int) (T0 T:List Qz) (D:List Ps):Prop where
 good:dR Kj T
 fits:D.length+jX Kj T<=jX Kj T0
 on:∀T' D',vV Kj picks T D T' D'->vV Kj picks T0 [] T' D'
theorem Eu.start{Kj:List Qq}{c:List Int}{T:List Qz}(h:dR Kj T):Eu Kj c T T []:=⟨h,A9,λ_ _ h=>h⟩
theorem Eu.next{Kj:List Qq}{a:List Int}{d T:List Qz}{D ns:List Ps}(h:Eu Kj a d T D)(j:aX (Q_ Kj))(e:fM (Q_ Kj) (Qj T) T ns)(f:0<ns.length):
  ∃r,Qj T (ns.getD (mU a D.length ns.length) ByteArray.empty)=some r/\aZ (Q_ Kj) (Qj T) r/\Eu Kj a d (doL (Q_ Kj) T r) (D++ [ns.getD (mU a D.length ns.length) ByteArray.empty])/\jX Kj (doL (Q_ Kj) T r)<jX Kj T:=by
 have k:ns.getD (mU a D.length ns.length) ByteArray.empty∈ns:=by
  have i:=ul a D.length f;simp only[List.getD,NV i,Ph];exact Oa i
 obtain⟨r,b,c⟩:=(e.ready h.good.asc _).1 k;have l:=Lx h.good b c;refine⟨r,b,c,⟨yn j h.good (aN b).1 c, ?_,λm n p=>h.on m n (.step e f b p)⟩,l⟩;have:=h.fits;rw[OD];show D.length+1+_<=_;omega
variable {σ : Env}
section
variable {W : bR}
def pend(W:bR)(σ:Env)(r:Qz):List Ps:=
 if r.over=true\/r.Zj=0 then [] else
 match W r.name with
 | none=>[]
 | some A=>(stepOf A r.at').asks.filter λa=>(aP W σ a).isNone
theorem ky :∀{l:List Ps},(∃xs,Yq W σ l=some xs)↔∀a∈l,(aP W σ a).isSome=true
 | []=>⟨λ_ _ h=>(by cases h),λ_=>⟨[],rfl⟩⟩
 | a :: l=>by
  constructor
  .rintro⟨xs,h⟩ b c;unfold Yq at h;cases e:aP W σ a with
   | none=>rw[e] at h;cases h
   | some x=>
    rw[e] at h;simp only at h;cases d:Yq W σ l with
    | none=>rw[d] at h;cases h
    | some f=>
     rcases OL.1 c with rfl|c
     .rw[e];rfl
     .exact ky.1 ⟨f,d⟩ b c
  .intro h;obtain⟨f,d⟩:=ky.2 (λb c=>h b (Oi _ c));obtain⟨x,i⟩:=Om.1 (h a A9);exact⟨x :: f,by unfold Yq;rw[i,d]⟩
theorem Ah{r:Qz}(n:(W r.name).isSome=true):aZ W σ r↔r.over=false/\pend W σ r=[]:=by
 obtain⟨A,e⟩:=Om.1 n;unfold aZ pend;constructor
 .rintro⟨b,a⟩;refine⟨b, ?_⟩;rcases a with a|⟨p,f,m,h⟩
  .rw[Pe (.inr a)]
  .by_cases c:r.Zj=0
   .rw[Pe (.inr c)]
   .rw[Pf (by rw[b];simp[c]),e];simp only;rw[e] at m;cases m;rw[List.filter_eq_nil_iff];intro d i;have:=ky.1 ⟨f,h⟩ d i;cases j:aP W σ d with
    | none=>rw[j] at this;cases this
    | some x=>simp
 .rintro⟨b,a⟩;refine⟨b, ?_⟩;by_cases c:r.Zj=0
  .exact .inl c
  .right
   rw[Pf (by rw[b];simp[c]),e] at a;simp only at a;rw[List.filter_eq_nil_iff] at a;obtain⟨f,h⟩:=(ky (l:=(stepOf A r.at').asks) (W:=W) (σ:=σ)).2 (λd i=>by
    have:=a d i;cases j:aP W σ d with
    | none=>rw[j] at this;simp at this
    | some x=>rfl)
   exact⟨A,f,e,h⟩
theorem JL{n:Ps}{r:Qz}(b:σ n=some r)(_hc:r.over=false)(a:Ps):aP W (doX W σ n) a=if a=n/\(W n).isSome=true then (if (Y_ W σ r).1.over=true then some ⟨(Y_ W σ r).1.fail,(Y_ W σ r).1.text⟩ else none) else aP W σ a:=by
 unfold aP;cases c:W a with
 | none=>
  have:¬(a=n/\(W n).isSome=true):=by rintro⟨rfl,h⟩;rw[c] at h;cases h
  rw[Pf this]
 | some A=>
  simp only;by_cases e:a=n
  .subst e;rw[Pe ⟨rfl,by rw[c];rfl⟩,je b]
  .rw[Pf (by rintro⟨h,_⟩;exact e h),ed b,Pf e];cases d:σ a with
   | some x=>rfl
   | none=>
    simp only
    split
    .rename_i x hx
     split at hx
     .cases hx;rfl
     .cases hx
    .rfl
theorem FU{n:Ps}{r x:Qz}(d:σ n=some r)(f:r.over=false)(h:(W n).isSome=true):pend W (doX W σ n) x=if (Y_ W σ r).1.over=true then (pend W σ x).filter (λa=>!decide (a=n)) else pend W σ x:=by
 unfold pend;by_cases b:x.over=true\/x.Zj=0
 .rw[Pe b,Pe b]
  split <;> rfl
 .rw[Pf b,Pf b];cases l:W x.name with
  | none=>simp only;split <;> rfl
  | some A=>
   simp only;have j:aP W σ n=none:=by
    unfold aP;obtain⟨B,k⟩:=Om.1 h;rw[k,d];simp[f]
   by_cases c:(Y_ W σ r).1.over=true
   .rw[Pe c,List.filter_filter]
    congr 1
    funext a
    rw[JL d f];by_cases e:a=n
    .rw[Pe ⟨e,h⟩,Pe c];simp[e]
    .rw[Pf (by rintro⟨i,_⟩;exact e i)];simp[e]
   .rw[Pf c]
    congr 1
    funext a
    rw[JL d f];by_cases e:a=n
    .rw[Pe ⟨e,h⟩,Pf c,e,j]
    .rw[Pf (by rintro⟨i,_⟩;exact e i)]
theorem nN(σ:Env)(n:Ps):pend W σ (Qz.fresh n)=[]:=by
 unfold pend;rw[Pe (.inr rfl)]
theorem Ey{r:Qz}(f:aX W){A:eY}(b:W r.name=some A)(m:0<=r.at')(n:r.at' < A.steps.length):(pend W σ r).Nodup:=by
 unfold pend
 split
 .exact List.nodup_nil
 .rw[b];simp only;refine List.Pairwise.filter _ ?_;have a:=(f _ _ b).1.2.2 r.at'.toNat A7;have e:A.steps.getD r.at'.toNat Xj.zero=stepOf A r.at':=rfl;rw[e] at a;cases c:(stepOf A r.at').fin with
  | true=>
   have:=(a.1 c).1;rw[Og.1 this];exact List.Pairwise.nil
  | false=>
   have h:=(a.2 c).1.2.2.2.1;rw[Ob];intro i j k d l e;have:=(h j d).2 i l;simp only[List.getD,NV k,NV d,Ph] at this;exact this e
end
variable {σ : Env}
section
variable {W : bR}
def aJ(W:bR)(σ:Env)(n:Ps):Nat->Qz×List Ps
 | 0=>(Qz.fresh n,[])
 | k+1=>((Y_ W σ (aJ W σ n k).1).1,(aJ W σ n k).2++ (Y_ W σ (aJ W σ n k).1).2)
def kF(W:bR)(σ:Env)(r:Qz)(L:List Ps):Prop:=∃k,aJ W σ r.name k= (r,L)/\∀j,j<k->aZ W σ (aJ W σ r.name j).1
theorem lT{n:Ps}:∀k,(aJ W σ n k).1.name=n
 | 0=>rfl
 | k+1=>by unfold aJ;rw[bP];exact lT k
theorem kF.start(n:Ps):kF W σ (Qz.fresh n) []:=⟨0,rfl,λ_ h=>aT h⟩
theorem kF.unit{r:Qz}{L:List Ps}(h:kF W σ r L)(b:aZ W σ r):kF W σ (Y_ W σ r).1 (L++ (Y_ W σ r).2):=by
 obtain⟨k,a,c⟩:=h;refine⟨k+1, ?_,λj d=>?_⟩
 .rw[bP];unfold aJ;rw[a]
 .rw[bP];rcases Nat.lt_or_ge j k with g|g
  .exact c j g
  .have:j=k:=A7;subst this;rw[a];exact b
theorem jL{n m:Ps}(a:bi W σ m):∀{k:Nat},(∀j,j<k->aZ W σ (aJ W σ n j).1)->aJ W (doX W σ m) n k=aJ W σ n k
 | 0,_=>rfl
 | k+1,h=>by
  have b:=jL (k:=k) a (λj c=>h j A7);have:=pF a (h k A7);unfold aJ;rw[b,this]
theorem kF.mono{m:Ps}{r:Qz}{L:List Ps}(h:kF W σ r L)(a:bi W σ m):kF W (doX W σ m) r L:=by
 obtain⟨k,c,b⟩:=h;refine⟨k,by rw[jL a b];exact c,λj d=>?_⟩;rw[jL a (λi e=>b i A7)];exact (b j d).mono a
theorem fO{n:Ps}(a:(W n).isSome=true):∀{k:Nat},(∀j,j<k->aZ W σ (aJ W σ n j).1)->(aJ W σ n k).1.over=false->(aJ W σ n k).1.Zj=k
 | 0,_,_=>rfl
 | k+1,h,ho=>by
  have b:=h k A7;have c:=fO a (k:=k) (λj d=>h j A7) b.1;rcases fP b (by rw[lT];exact a) with g | ⟨_,_,g⟩
  .show (Y_ W σ (aJ W σ n k).1).1.Zj=_;rw[g,c];omega
  .exact Pg (g.symm.trans ho) A9
end
section
variable {Kj : List Qq} {Gl σ0 σs σ : Env} {ns : List Ps} {i : Nat} {b : Bool}
structure oK (Kj:List Qq) (Gl σ0 σs:Env) (ns:List Ps) (σ:Env) (i:Nat) (b:Bool):Prop where
 led:∃k,bB (Behind (W:=Q_ Kj) dO Gl) (doX (Q_ Kj)) σ0 σ k
 no:b=false->σ=σs/\∀j,j<i->¬Behind (W:=Q_ Kj) dO Gl σs (ns.getD j ByteArray.empty)
 yes:b=true->cZ (Kj.map (·.name)) σ<cZ (Kj.map (·.name)) σs
theorem oK.start(a:∃k,bB (Behind (W:=Q_ Kj) dO Gl) (doX (Q_ Kj)) σ0 σs k):oK Kj Gl σ0 σs ns σs 0 false:=
 ⟨a,λ_=>⟨rfl,λj b=>aT b⟩,λh=>by cases h⟩
theorem oK.skip(h:oK Kj Gl σ0 σs ns σ i b)(c:¬Behind (W:=Q_ Kj) dO Gl σ (ns.getD i ByteArray.empty)):oK Kj Gl σ0 σs ns σ (i+1) b:=
 ⟨h.led,λa=>⟨(h.no a).1,λj e=>by
  by_cases d:j=i
  .subst d;rw[<-(h.no a).1];exact c
  .exact (h.no a).2 j A7⟩,h.yes⟩
theorem oK.did(c:WfX (Q_ Kj) σ)(h:oK Kj Gl σ0 σs ns σ i b){n:Ps}(a:Behind (W:=Q_ Kj) dO Gl σ n):oK Kj Gl σ0 σs ns (doX (Q_ Kj) σ n) (i+1) true:=by
 obtain⟨k,e⟩:=h.led;obtain⟨r,f,_⟩:=a.1;have d:=(kK c a.1 (Kj.map (·.name))).2 (jA (c n r f).web);refine⟨⟨k+1,e.snoc a⟩,λj=>(by cases j),λ_=>?_⟩;cases b with
 | true=>have:=h.yes rfl;omega
 | false=>rw[(h.no rfl).1] at d⊢;exact d
theorem oK.NM(h:oK Kj Gl σ0 σs ns σ ns.length false)(c:∀n r,σs n=some r->n∈ns):AtEnd (Behind (W:=Q_ Kj) dO Gl) σ:=by
 obtain⟨d,e⟩:=h.no rfl;intro n a;rw[d] at a;obtain⟨r,f,_⟩:=a.1;obtain⟨j,b,i⟩:=Oc (c n r f);have:=e j b;simp only[List.getD,NV b,Ph,i] at this;exact this a
end
