import Derived.Test.YtppbfddlkfglgaaGreatDoorKFFmt
import Derived.Test.YtppbfddlkfglgaaGreatDoorKSRoots
import Derived.Deep.AppendLies
import Derived.Test.YtppbfddlkfglgaaGreatDoorKWImpl5
set_option maxRecDepth 100000
set_option maxHeartbeats 25600000
namespace Go.Proofs.YtppbfddlkfglgaaGreatDoor
open Go.RowKit Go.Proofs.Tryz
theorem bi{P:Program}{e:TypeId}{z:QY}{size c:Nat}(h:(P.info? e).map (λi=>(i.zero,i.size,i.bytes))=some (some z,size,c)):∃i,P.info? e=some i/\i.zero=some z/\i.size=size/\i.bytes=c:=by
 obtain⟨i,f,a⟩:=Option.map_eq_some_iff.1 h;simp only[Prod.mk.injEq] at a;exact⟨i,f,a.1,a.2.1,a.2.2⟩
theorem pO{W:bf}{σ:Env}{a:QV}{x:Xz}:∀{l:List QV}{xs:List Xz},Yz W σ l=some xs->bI W σ a=some x->Yz W σ (l++[a])=some (xs++[x])
 |[],xs,h,hx=>by
  simp only[Yz,Ql] at h;subst h;simp[Yz,hx]
 |b :: l,xs,h,hx=>by
  unfold Yz at h;cases c:bI W σ b with
  |none=>simp[c] at h
  |some y=>
   cases d:Yz W σ l with
   |none=>simp[c,d] at h
   |some ys=>
    simp only[c,d,Ql] at h;subst h;show Yz W σ (b :: (l++[a]))=_;unfold Yz;rw[c,pO d hx]
    rfl
theorem pU{W:bf}{σ:Env}{a:QV}(d:bI W σ a=none):∀{l:List QV},a∈l->Yz W σ l=none
 |b :: l,h=>by
  unfold Yz;rcases Qr.1 h with rfl|h
  .rw[d]
  .cases e:bI W σ b with
   |none=>rfl
   |some y=>simp only[pU d h]
def Mi(Kq:List Qz)(l:List Q_)(asks:List QV)(w':QX)(e:Ending):Prop:=
 ∃(d:QW)(n c:Nat)(ok:Bool),e=.returned (.tuple #[.slice d n c,.bool ok])/\(ok=true->∃xs,Yz (Kk Kq) (Qq l) asks=some xs/\n=xs.length/\fI w' d xs)/\(ok=false->Yz (Kk Kq) (Qq l) asks=none)
theorem En(w:QX)(C:Nat)(a:QW)(cap:Nat)(Kq:List Qz)(d:QW)(dc:Nat)(l:List Q_)(s:Xq)(n D:QW)(v E:Nat)(a2:Kq.length<=1048576)(a3:l.length<=1048576)(b9:s.asks.length<=1000)(a4:∀x∈s.asks,x.size<=1000)(N:jA w C a Kq.length cap d l.length dc)(O:dS w a Kq)(P:jD w d l)(Q:Strs w n s.asks):
  Calls prog 71 #[.h C,.agg #[.slice n s.asks.length v,.b s.on,.slice D s.cases.length E,.b s.els,.b s.fall,.bool s.fin,.bool s.bad,.string s.give]] w λe w'=>Mi Kq l s.asks w' e/\K_ w w':=by
 have m:K_ w (w.alloc (.cells #[.slice n s.asks.length v,.b s.on,.slice D s.cases.length E,.b s.els,.b s.fall,.bool s.fin,.bool s.bad,.string s.give] 146)):=ai _ _;obtain⟨b,p⟩:=aj (w.alloc (.cells #[.slice n s.asks.length v,.b s.on,.slice D s.cases.length E,.b s.els,.b s.fall,.bool s.fin,.bool s.bad,.string s.give] 146));have q0:b.cell? ⟨w.heap.size,0,none⟩=some (.slice n s.asks.length v):=by rw[p];exact X_ w _ _ 0 _ rfl
 have R:w.heap.size<b.heap.size:=by rw[p];simp
 rw[<-p] at m;have S:K_ b (b.alloc (.cells #[] 50)):=ai _ _;have T:Hid ((b.alloc (.cells #[] 50)).ownsRow b.heap.size 50 2 (.c b.heap.size 0 0) 0 (dM [])):=Qa b #[] 0 (Pw _) (Py _) rfl;have a5:=Kz (Q.kept m);have a6:=Kz (O.kept m);have a7:=Kz (P.kept m);have a8:=Kz (N.kept m);have U:=Kz m;clear Q O P N m;go_enter func71,ntmps71
 go_upto_region 1 with fail
 rw[<-p];clear p;go_wp2
 go_loopg [6,7] s.asks.length λgg x6 x7 wr=>∃(i:Nat)(c:List Xz),x7=.b (i:Int)/\i+gg=s.asks.length/\c.length=i/\Hid (Yz (Kk Kq) (Qq l) (s.asks.take i)=some c)/\K_ b wr/\Hid (wr.ownsRow b.heap.size 50 2 x6 c.length (dM c))
 case atStart=>exact⟨0,[],rfl,A7,rfl,Kz rfl,S,T⟩
 case round=>
  clear T S;obtain⟨i,c,rfl,hi,F,V,k,G⟩:=hrel;have W:=Kz F;clear F;obtain⟨H,I,rfl⟩:=aG G.o;have c0:=(k.cell R).trans q0;have cz:w.heap.size<wr.heap.size:=Px R k.size;by_cases c1:(i:Int)<(s.asks.length:Int)
  .have q:i<s.asks.length:=A7;obtain⟨sb,so,rfl,a9,X⟩:=(a5.o.kept k) i q;obtain⟨J,y⟩:=aj (s.asks.getD i ByteArray.empty);rw[<-y] at X;have b0:J.size<=1000:=by rw[y];exact a4 _ (by simp[List.getD,q])
   have Y:=Kz y;clear y;go_wp2_with fail
   refine (FZ wr C a cap Kq d dc l J a2 a3 b0 (a8.o.kept k) (a6.o.kept k) (a7.o.kept k)).mono ?_;rintro e j ⟨⟨f,t,ok,rfl,Z⟩,r⟩;have K:=Kz Z;clear Z X a9;have L:K_ j (j.alloc (.cells #[.bool f,.string t] 50)):=ai _ _;cases ok
   .go_wp2
    go_ret2
    refine⟨⟨H,_,I,false,rfl,(λh=>(by cases h)),λ_=>pU (a:=J) (by simpa using K.o) (by rw[Y.o];simp[List.getD,q])⟩,U.o.trans (k.trans (r.trans L))⟩
   .have z:K_ j ((j.alloc (.cells #[.bool f,.string t] 50)).alloc (.cells #[.bool f,.string t] 50)):=L.alloc _;have r0:=X_ j #[.bool f,.string t] 50 0 _ rfl;have r1:=X_ j #[.bool f,.string t] 50 1 _ rfl;simp only[Qb] at r0 r1;have a0:=Kz (ay G.o (r.trans z));have b1:b.heap.size<=((j.alloc (.cells #[.bool f,.string t] 50)).alloc (.cells #[.bool f,.string t] 50)).heap.size:=(k.trans (r.trans z)).size;have b2:Hid (∀A u,([.bool f,.string t]:List QY)[A]? =some u->((j.alloc (.cells #[.bool f,.string t] 50)).alloc (.cells #[.bool f,.string t] 50)).cell? ((⟨j.heap.size+1,0,none⟩:Addr).add A)=some u):=λA u B=>by have:=X_ (j.alloc (.cells #[.bool f,.string t] 50)) #[.bool f,.string t] 50 A u B;rw[Qh] at this;rw[Qo];exact this
    have b3:Hid (∀u∈([.bool f,.string t]:List QY),u.oneCell'=true):=λu B=>by simp only[Qr,Qs,or_false] at B;rcases B with rfl|rfl<;>rfl
    have KK:=Kz (k.trans (r.trans z));have F:c.length<=1000:=by have:=W.o;omega
    obtain⟨ic,b4,b5,b6,b7⟩:=bi Tryz.EU;clear r L z;go_wp2_with (at_builtin;refine wpList_append_own _ rfl (.tmp 31) (.tmp 33) 147 rfl b.heap.size 50 ic _ 2 24 underlying147 b4 b5 b6 b7 rfl A8 (.slice H c.length I) c.length (dM c) rfl a0.o ⟨j.heap.size+1,0,none⟩ 1 1 [.bool f,.string t] rfl rfl b2.o b3.o D6 A7 b1 ?_;intro v' w6 M a1 _;have KP:=aL KK.out (Pw _) a0.o a1;have HP:=Kz M;obtain⟨c3,c4,rfl⟩:=aG M;clear M a1)
    go_roundg (gk-1)
    case measure=>omega
    case rel=>exact⟨i+1,c++[⟨f,t⟩],C8,A7,by rw[Qi,W.o];rfl,Kz (by rw[PH q];exact pO V.o (by rw[Y.o] at K;simpa[List.getD,q] using K.o)),KP,Kz (by rw[qy,Qi];exact HP.o)⟩
  .have b8:i=s.asks.length:=A7;go_wp2
   go_ret2
   refine⟨⟨H,_,I,true,rfl,λ_=>⟨c,?_,rfl,?_⟩,(λh=>(by cases h))⟩,U.o.trans k⟩
   .have:=V.o;rw[b8,Qc] at this;exact this
   .obtain⟨d2,c2,e2,_,hT⟩:=kG G.o;simp only[Qm,true_and] at e2;obtain⟨rfl,_⟩:=e2;exact hT.answers
def lU(l:List Xq)(at':Int):Xq:=l.getD at'.toNat Xq.zero
def oD(cost:Int)(l:List Xq)(at':Int):Prop:=iF ⟨cost,l⟩/\(0<=at'/\at' < l.length)/\(lU l at').fin=false
def nu(cost:Int)(l:List Xq)(at':Int)(ans:List Xz)(g:cO):Prop:=
 (¬oD cost l at'/\g=cO.none)\/(oD cost l at'/\Followed (lU l at') ans g)
theorem nu.unique{cost:Int}{l:List Xq}{c:Int}{ans:List Xz}{g d:cO}(h:nu cost l c ans g)(e:nu cost l c ans d):g=d:=by
 rcases h with⟨a,rfl⟩|⟨a,f⟩<;>rcases e with⟨b,rfl⟩|⟨b,i⟩
 .rfl
 .exact QK b a
 .exact QK a b
 .exact f.unique i
def OY(Kq:List Qz)(r:Q_):Prop:=∃A,Kk Kq r.name=some A/\0<=r.at'/\r.at' < A.steps.length
def aX(W:bf):Prop:=∀n A,W n=some A->iF A/\jR n
theorem vU :∀{xs:List Xz}{k j:Nat},pY xs k=some j->∃i,j=k+i/\i<xs.length/\ja (xs.getD i Xz.zero)/\nC xs ja i
 |[],_,_,h=>by simp[pY] at h
 |x :: l,k,j,h=>by
  unfold pY at h;by_cases a:x.fail=true
  .rw[QI a] at h;cases h;exact⟨0,rfl,A9,a,λj b=>aS b⟩
  .rw[QJ a] at h;obtain⟨i,f,c,d,e⟩:=vU h;refine⟨i+1,A7,by simpa using c,d,λj b=>?_⟩;cases j with
   |zero=>exact a
   |succ j=>exact e j A7
theorem vI :∀{xs:List Xz}{k:Nat},pY xs k=none->nC xs ja xs.length
 |[],_,_=>λj b=>aS b
 |x :: l,k,h=>by
  unfold pY at h;by_cases c:x.fail=true
  .rw[QI c] at h;cases h
  .rw[QJ c] at h;have:=vI h;intro j b;cases j with
   |zero=>exact c
   |succ j=>exact this j (by simpa using b)
theorem ve(t:QV)(els:Int):∀(l:List bQ),(∃i,i<l.length/\(l.getD i bQ.zero).text=t/\(∀j,j<i->(l.getD j bQ.zero).text≠t)/\pV t els l= (l.getD i bQ.zero).goto)\/((∀j,j<l.length->(l.getD j bQ.zero).text≠t)/\pV t els l=els)
 |[]=>.inr ⟨λj a=>aS a,rfl⟩
 |c :: l=>by
  by_cases b:c.text=t
  .exact .inl ⟨0,A9,b,λj a=>aS a,by simp[pV,b,List.getD]⟩
  .have f:pV t els (c :: l)=pV t els l:=by simp[pV,b]
   rw[f];rcases ve t els l with⟨i,d,e,h,k⟩|⟨d,e⟩
   .refine .inl ⟨i+1,by simpa using d,e,λj a=>?_,k⟩;cases j with
    |zero=>exact b
    |succ j=>exact h j A7
   .refine .inr ⟨λj a=>?_,e⟩;cases j with
    |zero=>exact b
    |succ j=>exact d j (by simpa using a)
variable {xs:List Xz}
theorem lD{s:Xq}(h:yK s xs):Followed s xs (fV s xs):=by
 refine .inr ⟨h,?_⟩;unfold fV;cases e:pY xs 0 with
 |some j=>
  obtain⟨i,p,f,k,l⟩:=vU e;have:j=i:=A7;subst this;refine .inl ⟨j,f,k,l,?_⟩;by_cases a:s.fall= -1
  .exact .inl ⟨a,by simp[a]⟩
  .exact .inr ⟨a,by simp[a]⟩
 |none=>
  refine .inr ⟨vI e,_,?_,rfl⟩;by_cases b:xs.length=0
  .rw[QI b];exact .inl ⟨b,rfl⟩
  .rw[QJ b];refine .inr ⟨b,?_⟩;rcases ve (ni xs s.on) s.els s.cases with⟨i,c,d,m,n⟩|⟨c,d⟩
   .exact .inl ⟨i,c,d,m,n⟩
   .exact .inr ⟨c,d⟩
theorem nu.Pv{cost:Int}{l:List Xq}{a:Int}{ans:List Xz}{g:cO}(h:nu cost l a ans g):(g.code=0->g.over=false->0<=g.at'/\g.at' < l.length)/\(g.over=true->7<=g.text.size):=by
 rcases h with⟨_,rfl⟩|⟨⟨c,⟨w,x⟩,d⟩,h⟩
 .exact⟨λe=>by simp[cO.none] at e,λe=>by simp[cO.none] at e⟩
 .have f:a.toNat<l.length:=A7;have j:lQ (lU l a) l.length:=c.2.2 a.toNat f;obtain⟨⟨_,_,_,k,_,b,m,_⟩,n⟩:=j.2 d;rcases h with⟨_,rfl⟩|⟨p,⟨i,q,_,_,⟨_,rfl⟩|⟨y,rfl⟩⟩|⟨_,r,s,rfl⟩⟩
  .exact⟨λe=>by simp[cO.none] at e,λe=>by simp[cO.none] at e⟩
  .refine⟨λ_ e=>by simp at e,λ_=>?_⟩;have:=(k i (by rw[<-p.1];exact q)).1.1;show 7<=(kU (lU l a) i).size;unfold kU;rw[ByteArray.size_append];show 7<=6+_;omega
  .exact⟨λ_ _=>⟨by show 0<=(lU l a).fall;omega,m.2⟩,λe=>by simp at e⟩
  .refine⟨λ_ _=>?_,λe=>by simp at e⟩;show 0<=r/\r<l.length;rcases s with⟨_,rfl⟩|⟨_,⟨t,v,_,_,rfl⟩|⟨_,rfl⟩⟩
   .exact b
   .exact (n t v).2
   .exact b
theorem GD(s:Xq)(xs:List Xz):(fV s xs).code=0:=by
 unfold fV
 split
 .split<;>rfl
 .rfl
structure Q_.Good (Kq:List Qz)(r:Q_):Prop where
 act:OY Kq r
 lo:0<=r.Zq
 hi:r.Zq<=20
 tl:(r.texts.length:Int)<=5*r.Zq
 ts:∀t∈r.texts,t.size<=200
 tx:r.text.size<=200
 stp:∀A,Kk Kq r.name=some A->r.over=false->r.Zq≠0->(stepOf A r.at').fin=false
def dR(Kq:List Qz)(σ:Env):Prop:=∀n r,σ n=some r->r.name=n/\r.Good Kq
theorem JA{n:QV}(h:n.size<=20):(yU n).size<=200:=by
 unfold yU;rw[ByteArray.size_append];show 3+n.size<=200;omega
variable {Kq:List Qz}
theorem xx{σ:Env}{n:QV}{x:Xz}(b:dR Kq σ)(c:n.size<=20)(h:bI (Kk Kq) σ n=some x):x.text.size<=200:=by
 unfold bI at h
 split at h
 .simp only[Ql] at h;subst h;exact JA c
 .split at h
  .rename_i r hr
   split at h
   .simp only[Ql] at h;subst h;exact (b n r hr).2.tx
   .cases h
  .cases h
theorem qx{W:bf}{σ:Env}{p:Xz->Prop}:∀{l:List QV}{xs:List Xz},(∀n∈l,∀x,bI W σ n=some x->p x)->Yz W σ l=some xs->xs.length=l.length/\∀x∈xs,p x
 |[],xs,_,h=>by
  simp only[Yz,Ql] at h;subst h;exact⟨rfl,λx f=>by cases f⟩
 |a :: l,xs,hp,h=>by
  unfold Yz at h;cases b:bI W σ a with
  |none=>simp[b] at h
  |some x=>
   cases c:Yz W σ l with
   |none=>simp[b,c] at h
   |some ys=>
    simp only[b,c,Ql] at h;subst h;obtain⟨i,j⟩:=qx (p:=p) (λn k=>hp n (PS _ k)) c;refine⟨by simp[i],λy d=>?_⟩;rcases Qr.1 d with rfl|d
    .exact hp a A9 y b
    .exact j y d
theorem sD{σ:Env}{s:Xq}(b:dR Kq σ)(c:∀n∈s.asks,n.size<=20)(h:Yz (Kk Kq) σ s.asks=some xs):yK s xs/\∀x∈xs,x.text.size<=200:=by
 obtain⟨d,a⟩:=qx (p:=λx=>x.text.size<=200) (λn e x f=>xx b (c n e) f) h;refine⟨⟨d,λ⟨i,j,k⟩=>?_⟩,a⟩;have:=a (xs.getD i Xz.zero) (by simp[List.getD,j]);unfold qw at k;omega
theorem jU{A:gu}(e:iF A){i:Int}(h:0<=i)(k:i<A.steps.length):(stepOf A i).asks.length<=5/\∀n∈(stepOf A i).asks,jR n:=by
 have b:lQ (stepOf A i) A.steps.length:=e.2.2 i.toNat A7;cases c:(stepOf A i).fin with
 |true=>
  have:=(b.1 c).1;refine⟨A7,λn a=>?_⟩;rw[QO this] at a;cases a
 |false=>
  have:=(b.2 c).1;refine⟨this.2.2.1,λn a=>?_⟩;obtain⟨j,d,f⟩:=PN a;have:=(this.2.2.2.1 j d).1;simp only[List.getD,PE d,f,QL] at this;exact this
theorem BP{s:Xq}{i:Nat}(h:∀n∈s.asks,n.size<=20):(kU s i).size<=200:=by
 unfold kU;rw[ByteArray.size_append];show 6+_<=200;by_cases a:i<s.asks.length
 .have:=h (s.asks.getD i ByteArray.empty) (by simp[List.getD,a]);omega
 .have e:s.asks.getD i ByteArray.empty=ByteArray.empty:=by simp[List.getD,a]
  rw[e]
  decide
theorem Nl(give:QV)(l:List QV):(pJ give l).size<=200:=by
 show (nM give.data.toList (texts l)).toArray.size<=200;unfold nM
 split
 .simp
 .split
  .simpa using ‹_›
  .simp[jc]
theorem xR(xs:List Xz):(bD xs).length<=xs.length:=by
 unfold bD;rw[QD];exact List.length_filter_le _ _
theorem yX{t:QV}(h:t∈bD xs):∃x∈xs,x.text=t:=by
 unfold bD at h;rw[PX] at h;obtain⟨x,b,e⟩:=h;exact⟨x,(List.mem_filter.1 b).1,e⟩
theorem vF{A:gu}{r:Q_}(a:Kk Kq r.name=some A)(b:0<=r.at')(c:r.at' < A.steps.length)(k:0<=r.Zq)(l:r.Zq<20)(d:(r.texts.length:Int)<=5*(r.Zq+1))(ts:∀t∈r.texts,t.size<=200)(e:r.text.size<=200):(gF A r).1.Good Kq:=by
 unfold gF;cases f:(stepOf A r.at').fin with
 |true=>
  simp only[if_true];exact⟨⟨A,a,b,c⟩,by show 0<=r.Zq+1;omega,by show r.Zq+1<=20;omega,d,ts,Nl _ _,λ_ _ h=>by simp at h⟩
 |false=>
  simp only[Bool.false_eq_true,if_false];refine⟨⟨A,a,b,c⟩,by show 0<=r.Zq+1;omega,by show r.Zq+1<=20;omega,d,ts,e,λi j _ _=>?_⟩;have:A=i:=Qv (a.symm.trans j);subst this;exact f
theorem fK{σ:Env}{r:Q_}(y:aX (Kk Kq))(z:dR Kq σ)(h:r.Good Kq)(j:bg (Kk Kq) σ r):(Xx (Kk Kq) σ r).1.Good Kq:=by
 obtain⟨A,b,d,e⟩:=h.act;have k:=(y _ _ b).1;unfold Xx;rw[b];simp only;by_cases f:r.Zq=0
 .rw[QI f];have:=h.tl;exact vF b d e h.lo A7 A7 h.ts h.tx
 .rw[QJ f];rcases j.2 with B|⟨R,a,l,m⟩
  .exact QK B f
  .rw[b] at l;cases l;rw[m];simp only;have S:=h.lo;have T:=h.hi;have U:=h.tl;by_cases p:r.Zq=20
   .rw[QI p];exact⟨⟨A,b,d,e⟩,h.lo,h.hi,h.tl,h.ts,by show ou.size<=200;decide,λ_ _ h=>by simp at h⟩
   .rw[QJ p];obtain⟨C,D⟩:=jU k d e;have q:∀n∈(stepOf A r.at').asks,n.size<=20:=λn E=>(D n E).2.1
    obtain⟨s,F⟩:=sD z q m;have G:=lD s;have V:nu A.cost A.steps r.at' a (fV (stepOf A r.at') a):=.inr ⟨⟨k,⟨d,e⟩,h.stp A b j.1 f⟩,G⟩;by_cases c:(fV (stepOf A r.at') a).over=true
    .rw[QI c];refine⟨⟨A,b,d,e⟩,by show 0<=r.Zq+1;omega,by show r.Zq+1<=20;omega,by show (r.texts.length:Int)<=5*(r.Zq+1);omega,h.ts,?_,λ_ _ h=>by simp at h⟩;show (fV (stepOf A r.at') a).text.size<=200;unfold fV
     split
     .split
      .exact BP q
      .show (⟨#[]⟩:QV).size<=200;decide
     .show (⟨#[]⟩:QV).size<=200;decide
    .rw[QJ c];have t:0<=(fV (stepOf A r.at') a).at'/\(fV (stepOf A r.at') a).at' < A.steps.length:=by
      have H:(stepOf A r.at').fin=false:=h.stp A b j.1 f;have I:lQ (stepOf A r.at') A.steps.length:=k.2.2 r.at'.toNat A7;obtain⟨⟨_,_,_,_,_,v,J,_⟩,K⟩:=I.2 H;unfold fV at c⊢
      split
      .rename_i w hi'
       rw[hi'] at c;simp only at c;by_cases x:(stepOf A r.at').fall= -1
       .rw[QI x] at c;simp at c
       .rw[QJ x];exact⟨by show 0<=(stepOf A r.at').fall;omega,J.2⟩
      .show 0<=(if a.length=0 then _ else _)/\(if a.length=0 then _ else _)<_
       split
       .exact v
       .rcases ve (ni a (stepOf A r.at').on) (stepOf A r.at').els (stepOf A r.at').cases with⟨w,L,_,_,M⟩|⟨_,N⟩
        .rw[M];exact (K w L).2
        .rw[N];exact v
     have W:=xR a;have X:a.length<=5:=by rw[s.1];exact C
     refine vF (r:={r with texts:=r.texts++bD a,at':=(fV (stepOf A r.at') a).at'}) b t.1 t.2 h.lo (by show r.Zq<20;omega) ?_ (λO i=>?_) h.tx
     .show ((r.texts++bD a).length:Int)<=5*(r.Zq+1);rw[Qi]
      push_cast
      omega
     .rcases PK.1 i with i|i
      .exact h.ts O i
      .obtain⟨P,Q,rfl⟩:=yX i;exact F P Q
def uW(Kq:List Qz):Prop:=∀y∈Kq,∀s∈y.steps,s.asks.length<=1000/\∀x∈s.asks,x.size<=1000
def dw(W:bf):List Q_->List QV->List Q_
 |l,[]=>l
 |l,a :: bs=>dw W (if (W a).isSome=true/\(Qq l a).isNone=true then l++[Q_.fresh a] else l) bs
theorem Li(l:List Q_)(x:Q_)(m:QV):Qq (l++[x]) m=match Qq l m with|some r=>some r|none=>if x.name=m then some x else none:=by
 unfold Qq;rw[List.find?_append];cases h:l.find? λr=>decide (r.name=m) with
 |some r=>rfl
 |none=>
  by_cases e:x.name=m
  .simp[e]
  .simp[e]
theorem nN(W:bf):∀(bs:List QV)(l:List Q_)(m:QV),Qq (dw W l bs) m=match Qq l m with|some r=>some r|none=>if fu bs m=true/\(W m).isSome=true then some (Q_.fresh m) else none
 |[],l,m=>by
  show Qq l m=_;cases Qq l m with
  |some r=>rfl
  |none=>simp[fu]
 |a :: bs,l,m=>by
  show Qq (dw W (if (W a).isSome=true/\(Qq l a).isNone=true then l++[Q_.fresh a] else l) bs) m=_;rw[nN W bs];have d:fu (a :: bs) m=true↔a=m\/fu bs m=true:=by simp[fu]
  by_cases e:(W a).isSome=true/\(Qq l a).isNone=true
  .rw[QI e,Li];cases k:Qq l m with
   |some r=>rfl
   |none=>
    simp only;by_cases h:a=m
    .subst h;have i:(Q_.fresh a).name=a:=rfl;rw[QI i];simp only;rw[QI ⟨d.2 (.inl rfl),e.1⟩]
    .have i:(Q_.fresh a).name≠m:=h;rw[QJ i];simp only;by_cases b:fu bs m=true/\(W m).isSome=true
     .rw[QI b,QI ⟨d.2 (.inr b.1),b.2⟩]
     .rw[QJ b,QJ];rintro⟨j,f⟩;rcases d.1 j with c|c
      .exact h c
      .exact b ⟨c,f⟩
  .rw[QJ e];cases k:Qq l m with
   |some r=>rfl
   |none=>
    simp only;by_cases b:fu bs m=true/\(W m).isSome=true
    .rw[QI b,QI ⟨d.2 (.inr b.1),b.2⟩]
    .rw[QJ b,QJ];rintro⟨j,f⟩;rcases d.1 j with c|c
     .subst c;exact e ⟨f,by rw[k];rfl⟩
     .exact b ⟨c,f⟩
theorem lI(W:bf):∀(bs:List QV)(l:List Q_),(∀x∈l,∀y∈l,x.name=y.name->x=y)->∀x∈dw W l bs,∀y∈dw W l bs,x.name=y.name->x=y
 |[],_,h=>h
 |a :: bs,l,h=>by
  show∀x∈dw W (if (W a).isSome=true/\(Qq l a).isNone=true then l++[Q_.fresh a] else l) bs,∀y∈dw W (if (W a).isSome=true/\(Qq l a).isNone=true then l++[Q_.fresh a] else l) bs,_;refine lI W bs _ ?_;by_cases f:(W a).isSome=true/\(Qq l a).isNone=true
  .rw[QI f];have i:∀x∈l,x.name≠a:=λx b e=>by
    have:=(qV h).2 ⟨b,e⟩;rw[this] at f;simp at f
   intro x b y d e;rcases PK.1 b with b|b<;>rcases PK.1 d with d|d
   .exact h x b y d e
   .rw[PI] at d;subst d;exact QK e (i x b)
   .rw[PI] at b;subst b;exact QK e.symm (i y d)
   .rw[PI] at b d;rw[b,d]
  .rw[QJ f];exact h
def doL(W:bf)(l:List Q_)(r:Q_):List Q_:=(dw W (dH l (Xx W (Qq l) r).1) (Xx W (Qq l) r).2).foldl dH []
variable {l:List Q_}
theorem CS{W:bf}{r:Q_}(h:d_ l):d_ (doL W l r):=(jN _ [] List.Pairwise.nil (lI W _ _ (qC (lY h)))).1
theorem jT{W:bf}{n:QV}{r:Q_}(h:d_ l)(a:Qq l n=some r):Qq (doL W l r)=doX W (Qq l) n:=by
 funext m
 have c:r.name=n:=(bA a).2;have d:(Xx W (Qq l) r).1.name=n:=by rw[dz];exact c
 unfold doL;rw[(jN _ [] List.Pairwise.nil (lI W _ _ (qC (lY h)))).2 m,nN,xL h,eD a,d];by_cases e:m=n
 .rw[QI e,QI e]
 .rw[QJ e,QJ e];cases f:Qq l m with
  |some x=>rfl
  |none=>
   simp only;by_cases b:fu (Xx W (Qq l) r).2 m=true/\(W m).isSome=true
   .rw[QI b]
   .rw[QJ b]
    rfl
structure fU (Kq:List Qz)(l:List Q_):Prop where
 asc:d_ l
 good:∀r∈l,r.Good Kq
variable {Kq:List Qz}
theorem fU.env(h:fU Kq l):dR Kq (Qq l):=λ_n r a=>⟨(bA a).2,h.good r (bA a).1⟩
theorem iD(c:aX (Kk Kq)){a:QV}(h:(Kk Kq a).isSome=true):(Q_.fresh a).Good Kq:=by
 obtain⟨A,b⟩:=PV.1 h;have e:=(c a A b).1.2.1.1;exact⟨⟨A,b,Int.le_refl _,by show (0:Int)<A.steps.length;omega⟩,Int.le_refl _,by show (0:Int)<=20;omega,by show ((([]:List QV).length:Nat):Int)<=5*0;simp,λt d=>(by cases d),by show (⟨#[]⟩:QV).size<=200;decide,λ_ _ _ h=>QK rfl h⟩
theorem LB(c:aX (Kk Kq)){r:Q_}(h:fU Kq l)(d:r∈l)(i:bg (Kk Kq) (Qq l) r):fU Kq (doL (Kk Kq) l r):=by
 refine⟨CS h.asc,λx j=>?_⟩;have e:=bO h.asc d;have a:=bO (CS (W:=Kk Kq) (r:=r) h.asc) j;rw[jT h.asc e,eD e] at a;by_cases f:x.name=r.name
 .rw[QI f] at a;cases a;exact fK c h.env (h.good r d) i
 .rw[QJ f] at a;cases b:Qq l x.name with
  |some y=>
   rw[b] at a;cases a;exact h.good x (bA b).1
  |none=>
   rw[b] at a;simp only at a
   split at a
   .rename_i hc2
    have k:Q_.fresh x.name=x:=Qv a;rw[<-k];exact iD c hc2.2
   .cases a
def b_(Kq:List Qz)(Kj:List QV):List Q_:=(dw (Kk Kq) [] Kj).foldl dH []
theorem yQ(Kq:List Qz)(Kj:List QV):d_ (b_ Kq Kj):=(jN _ [] List.Pairwise.nil (lI (Kk Kq) Kj [] λ_ h=>by cases h)).1
theorem ik(Kq:List Qz)(Kj:List QV)(n:QV):Qq (b_ Kq Kj) n=if fu Kj n=true/\(Kk Kq n).isSome=true then some (Q_.fresh n) else none:=by
 unfold b_;rw[(jN _ [] List.Pairwise.nil (lI (Kk Kq) Kj [] λ_ h=>by cases h)).2 n,nN];show (match (if fu Kj n=true/\(Kk Kq n).isSome=true then some (Q_.fresh n) else none) with|some r=>some r|none=>Qq [] n)=_
 split
 .rename_i r h;rw[h]
 .rename_i h;rw[h];rfl
theorem kr(c:aX (Kk Kq))(Kj:List QV):fU Kq (b_ Kq Kj):=by
 refine⟨yQ Kq Kj,λr d=>?_⟩;have a:=bO (yQ Kq Kj) d;rw[ik] at a
 split at a
 .rename_i h2
  have e:Q_.fresh r.name=r:=Qv a;rw[<-e];exact iD c h2.2
 .cases a
theorem fU.wf(h:fU Kq l):WfX (Kk Kq) (Qq l):=λn r c=>by
 obtain⟨d,b⟩:=bA c;have a:=h.good r d;obtain⟨A,e,_⟩:=a.act;exact⟨b,by rw[<-b,e];rfl,a.lo,a.hi⟩
theorem qM{n:QV}(h:(Kk Kq n).isSome=true):n∈Kq.map (·.name):=by
 obtain⟨A,c⟩:=PV.1 h;obtain⟨k,a,e,_⟩:=iq c;rw[PX];refine⟨Kq.getD k Qz.zero,?_,e⟩;simp only[List.getD,PE a,QL];exact PL a
theorem AL(h:d_ l):(l.map (·.name)).Nodup:=by
 rw[List.Nodup,List.pairwise_map];exact h.imp λb=>fM b
theorem fU.len(h:fU Kq l):l.length<=Kq.length:=by
 have c:=List.Nodup.length_le_of_subset (AL h.asc) (l₂:=Kq.map (·.name)) (λn d=>by
  obtain⟨r,e,rfl⟩:=PX.1 d;exact qM (h.wf r.name r (bO h.asc e)).web)
 simpa using c
def OQ(Kq:List Qz)(Kj:List QV)(sl:List Q_):Prop:=
 ∃k L,fU Kq L/\dx (Behind (W:=Kk Kq) xh (Qq sl)) (doX (Kk Kq)) (Qq (b_ Kq Kj)) (Qq L) k/\AtEnd (Behind (W:=Kk Kq) xh (Qq sl)) (Qq L)/\L=sl
theorem Tryz.gH :(prog.info? 9).map (λi=>(i.zero,i.size,i.bytes))=some (some (.string ByteArray.empty),1,16):=C9
variable {w:QX}
theorem wm{base:Nat}{t:TypeId}{v:QY}{n:Nat}{l:List QV}(h:w.ownsRow base t 1 v n (l.map Value.string)):∃a cap,v=.slice a l.length cap/\l.length<=cap/\Strs w a l:=by
 have c:n=l.length:=by have:=h.1;simp at this;omega
 subst c;rcases h.2 with⟨rfl,d⟩|⟨g,cap,j,rfl,k,e,f,_,_,_⟩
 .exact⟨none,0,by rw[d],A7,λi b=>A7⟩
 .refine⟨_,cap,rfl,f,λi b=>⟨g,0,rfl,aP e,?_⟩⟩;have:=h.cells (g:=g) rfl i (.string (l.getD i ByteArray.empty)) (by simp[List.getD,b]);rw[Qo] at this;exact this
theorem mG(l:List Xz)(x:Xz):bD (l++[x])=bD l++if x.fail=true then [] else [x.text]:=by
 unfold bD;rw[List.filter_append,QM];cases a:x.fail<;>simp[a]
def KT(xs:List Xz)(w':QX)(e:Ending):Prop:=∃(g c:Nat),e=.returned (.c g (bD xs).length c)/\Strs w' (some ⟨g,0,none⟩) (bD xs)
theorem KY(w:QX)(d:QW)(dc:Nat)(xs:List Xz)(a0:xs.length<=1000)(G:fI w d xs):
  Calls prog 73 #[.slice d xs.length dc] w λe w'=>KT xs w' e/\K_ w w':=by
 have v:K_ w (w.alloc (.cells #[] 9)):=ai _ _;have y:Hid ((w.alloc (.cells #[] 9)).ownsRow w.heap.size 9 1 (.c w.heap.size 0 0) 0 (([]:List QV).map Value.string)):=Qa w #[] 0 (Pw _) (Py _) rfl;go_enter func73,ntmps73
 go_wp2
 go_loopg [3,4] xs.length λH I J wr=>∃(i:Nat)(g a:Nat),I=.c g (bD (xs.take i)).length a/\J=.b (i:Int)/\i+H=xs.length/\(bD (xs.take i)).length<=i/\K_ w wr/\Hid (wr.ownsRow w.heap.size 9 1 (.c g (bD (xs.take i)).length a) (bD (xs.take i)).length ((bD (xs.take i)).map Value.string))
 case atStart=>exact⟨0,w.heap.size,0,rfl,rfl,A7,Pw _,v,y⟩
 case round=>
  clear y v;obtain⟨i,g,a,rfl,rfl,hi,K,h,f⟩:=hrel;by_cases a1:(i:Int)<(xs.length:Int)
  .have p:i<xs.length:=A7;obtain⟨b,o,rfl,hb,j⟩:=(G.kept h) i p;obtain⟨x,q⟩:=aj (xs.getD i Xz.zero);rw[<-q] at j;have r:=j 0 _ rfl;have t1:=j 1 _ rfl;rw[Qp] at r;have k:Hid (xs.take (i+1)=xs.take i++[x]):=by show _=_;rw[PH p,q];simp[List.getD,p]
   obtain⟨c,s⟩:=aj (bD (xs.take i));rw[<-s] at K f⊢;have z:=Kz s;clear j q s;cases l:x.fail
   .rw[l] at r;have t:K_ wr (wr.alloc (.cells #[.string x.text] 9)):=ai _ _;have A:=Kz (ay f.o t);have B:=Kz (h.trans t);have L:w.heap.size<=(wr.alloc (.cells #[.string x.text] 9)).heap.size:=B.out.size;have M:Hid (∀m u,([.string x.text]:List QY)[m]? =some u->(wr.alloc (.cells #[.string x.text] 9)).cell? ((⟨wr.heap.size,0,none⟩:Addr).add m)=some u):=λm u n=>by rw[Qo];exact X_ wr #[.string x.text] 9 m u n
    have N:Hid (∀u∈([.string x.text]:List QY),u.oneCell'=true):=λu n=>by simp only[Qr,Qs,or_false] at n;subst n;rfl
    obtain⟨O,P,Q,R,S⟩:=bi Tryz.gH;clear t;go_wp2_with (at_builtin;refine wpList_append_lies _ rfl (.tmp 18) (.tmp 24) 26 rfl w.heap.size 9 O _ 1 16 underlying26 P Q R S rfl A8 (.c g c.length a) c.length (c.map Value.string) rfl A.o ⟨wr.heap.size,0,none⟩ 1 1 [.string x.text] rfl rfl M.o N.o A7 D6 A7 L _ rfl ?_;intro T U w6 C D V W;have X:=aL B.out (Pw _) A.o D;have Y:=Kz C;clear C D V W)
    go_roundg (gk-1)
    case measure=>omega
    case rel=>
     have e:bD (xs.take (i+1))=c++[x.text]:=by rw[k.o,mG,<-z.o,l];rfl
     exact⟨i+1,T,U,by rw[e,Qi];rfl,C8,A7,by rw[e,Qi];show c.length+1<=i+1;omega,X,Kz (by rw[e,QM,Qi];exact Y.o)⟩
   .rw[l] at r;go_wp2
    go_roundg (gk-1)
    case measure=>omega
    case rel=>
     have e:bD (xs.take (i+1))=c:=by rw[k.o,mG,<-z.o,l];simp
     exact⟨i+1,g,a,by rw[e],C8,A7,by rw[e];omega,h,Kz (by rw[e];exact f.o)⟩
  .have Z:i=xs.length:=A7;have e:bD (xs.take i)=bD xs:=by rw[Z,Qc]
   rw[e] at f⊢;obtain⟨d2,c2,E,a2,F⟩:=wm f.o;simp only[Qm,true_and] at E;obtain⟨rfl,rfl⟩:=E;have k:=Kz F;clear F e;go_wp2
   go_ret
   exact⟨⟨g,a,rfl,k.o⟩,h⟩
theorem Tryz.ky :(prog.info? 59).map (·.size)=some 7:=C9
theorem nR{b o n:Nat}{cs:List QY}(h:w.rangeAt b 0 cs)(d:Row w b n)(f:o<n)(v:QY):(w.setCell ⟨b,o,none⟩ v).rangeAt b 0 (cs.set o v):=by
 intro j u a;rw[Qb];rw[List.getElem?_set] at a;by_cases e:o=j
 .subst e;rw[QI rfl] at a;by_cases c:o<cs.length
  .rw[QI c] at a;cases a;exact bB d f _
  .rw[QJ c] at a;cases a
 .rw[QJ e] at a;rw[Xk e];have:=h j u a;rw[Qb] at this;exact this
structure wh (w:QX)(b:Nat)(r:Q_)(xa:QW)(xc:Nat):Prop where
 row:aH w b 59 7
 rng:w.rangeAt b 0 (r.cells xa xc)
variable {xa:QW}
theorem wh.all{b:Nat}{r:Q_}{xc:Nat}(h:wh w b r xa xc):w.cell? ⟨b,0,none⟩=some (.string r.name)/\w.cell? ⟨b,1,none⟩=some (.bool r.over)/\w.cell? ⟨b,2,none⟩=some (.bool r.fail)/\w.cell? ⟨b,3,none⟩=some (.string r.text)/\w.cell? ⟨b,4,none⟩=some (.b r.at')/\w.cell? ⟨b,5,none⟩=some (.b r.Zq)/\w.cell? ⟨b,6,none⟩=some (.slice xa r.texts.length xc):=by
 have a:∀j v,(r.cells xa xc)[j]? =some v->w.cell? ⟨b,j,none⟩=some v:=λj v f=>by have:=h.rng j v f;rw[Qb] at this;exact this
 exact⟨a 0 _ rfl,a 1 _ rfl,a 2 _ rfl,a 3 _ rfl,a 4 _ rfl,a 5 _ rfl,a 6 _ rfl⟩
theorem wh.kept{w':QX}{b:Nat}{r:Q_}{xc:Nat}(h:wh w b r xa xc)(k:K_ w w'):wh w' b r xa xc:=⟨h.row.kept k,k.range h.row.lt h.rng⟩
theorem wh.put{b:Nat}{r r':Q_}{xa':QW}{xc xc' o:Nat}{v:QY}(h:wh w b r xa xc)(c:o<7)(e:r'.cells xa' xc'= (r.cells xa xc).set o v):wh (w.setCell ⟨b,o,none⟩ v) b r' xa' xc':=⟨h.row.set _,by rw[e];exact nR h.rng h.row.row c v⟩
section
variable {n0:Nat}{w wr w':QX}{ab:Nat}{cost:Int}{sa:QW}{sn sc:Nat}{r r':Q_}{xa xa':QW}{xc xc':Nat}
end
theorem dL{g:Nat}(a:w.heap.size<=g):∀(vs:List QY)(o:Nat){u:QX},K_ w u->K_ w (u.setCells g o vs)
 |[],_,_,h=>h
 |v :: r,o,_,h=>by rw[World.setCells];exact dL a r (o+1) (Below.setCell h (p:=⟨g,o,none⟩) a v)
theorem Tryz.zC :(prog.info? 59).map (λi=>(i.zero,i.size,i.bytes))=some (some (.agg #[.string ⟨#[]⟩,.bool false,.bool false,.string ⟨#[]⟩,.b 0,.b 0,J6]),7,80):=C9
def p_(w:QX)(P:Nat->Prop)(a:QW)(l:List Q_):Prop:=
 ∀i,i<l.length->∃b o xa xc,a=some ⟨b,o,none⟩/\b<w.heap.size/\w.rangeAt b (o+i*7) ((l.getD i Q_.zero).cells xa xc)/\Strs w xa (l.getD i Q_.zero).texts/\(xa=none->xc=0)/\(∀ad:Addr,xa=some ad->P ad.block)
variable {l:List Q_}{P:Nat -> Prop}{w:QX}
theorem p_.kept{w':QX}{a:QW}(h:p_ w P a l)(k:K_ w w'):p_ w' P a l:=by
 intro i c;obtain⟨d,o,e,f,j,b,m,n,p⟩:=h i c;exact⟨d,o,e,f,j,Px b k.size,k.range b m,n.kept k,p⟩
theorem p_.runs{a:QW}(h:p_ w P a l):jD w a l:=by
 intro i c;obtain⟨b,o,d,f,e,j,k,m,n,_⟩:=h i c;exact⟨b,o,d,f,e,j,k,m,n⟩
def dE(w:QX)(P:Nat->Prop)(xs:List QY)(l:List Q_):Prop:=xs.length=l.length*7/\∀i,i<l.length->∃xa xc,(xs.drop (i*7)).take 7= (l.getD i Q_.zero).cells xa xc/\Strs w xa (l.getD i Q_.zero).texts/\(xa=none->xc=0)/\(∀ad:Addr,xa=some ad->P ad.block)
theorem dE.nil(w:QX)(P:Nat->Prop):dE w P [] []:=⟨rfl,λi a=>by simp at a⟩
variable {xs:List QY}
theorem dE.kept{w':QX}(h:dE w P xs l)(k:K_ w w'):dE w' P xs l:=⟨h.1,λi a=>by obtain⟨b,c,d,e,f⟩:=h.2 i a;exact⟨b,c,d,e.kept k,f⟩⟩
theorem dE.snoc{r:Q_}{xa:QW}{xc:Nat}(h:dE w P xs l)(e:Strs w xa r.texts)(f:xa=none->xc=0)(j:∀ad:Addr,xa=some ad->P ad.block):dE w P (xs++r.cells xa xc) (l++[r]):=by
 refine⟨by simp[h.1,Q_.cells];omega,λi c=>?_⟩;rw[Qi] at c;simp only[Qn,List.length_nil] at c;by_cases d:i<l.length
 .have a:(l++[r]).getD i Q_.zero=l.getD i Q_.zero:=by simp[List.getD,Qx d]
  have b:((xs++r.cells xa xc).drop (i*7)).take 7= (xs.drop (i*7)).take 7:=by
   rw[List.drop_append_of_le_length (by rw[h.1];omega),List.take_append_of_le_length (by rw[List.length_drop,h.1];omega)]
  rw[a,b];exact h.2 i d
 .obtain rfl:i=l.length:=A7;have a:(l++[r]).getD l.length Q_.zero=r:=H7;have b:((xs++r.cells xa xc).drop (l.length*7)).take 7=r.cells xa xc:=by
   rw[<-h.1,List.drop_left]
   rfl
  rw[a,b];exact⟨xa,xc,rfl,e,f,j⟩
variable {base:Nat}
theorem dE.runs{w':QX}{n:Nat}{v:QY}(b:w'.ownsRow base 59 7 v n xs)(h:dE w P xs l)(k:K_ w w'):n=l.length/\∃a cap,v=.slice a l.length cap/\p_ w' P a l:=by
 have f:n=l.length:=by have z:=b.1;have A:=h.1;omega
 subst f;refine⟨rfl,?_⟩;rcases b.2 with⟨rfl,m⟩|⟨g,cap,B,rfl,C,p,D,_,_,_⟩
 .exact⟨none,0,by rw[m],λi c=>A7⟩
 .refine⟨_,cap,rfl,λi c=>?_⟩;obtain⟨q,r,s,t,x⟩:=h.2 i c;refine⟨g,0,q,r,rfl,aP p,(λj u d=>?_),t.kept k,x⟩;have y:j<7:=by have:=(PG.1 d).1;simpa[Q_.cells] using this
  have e:((xs.drop (i*7)).take 7)[j]? =some u:=by rw[s];exact d
  rw[List.getElem?_take,QI y,List.getElem?_drop] at e;have:=b.cells (g:=g) rfl _ _ e;rw[Qo] at this;rw[Qb] at this⊢;exact this
theorem Jm{c p:Nat}{t:TypeId}{v u:QY}{n:Nat}{l:List QV}(h:w.ownsRow base t 1 v n (l.map Value.string))(q:c<base):∃a cap,v=.slice a l.length cap/\Strs (w.setCell ⟨c,p,none⟩ u) a l/\(a=none->cap=0)/\(∀b:Addr,a=some b->base<=b.block):=by
 have f:n=l.length:=by have:=h.1;simp at this;omega
 subst f;rcases h.2 with⟨rfl,j⟩|⟨g,cap,r,rfl,k,m,s,_,_,_⟩
 .exact⟨none,0,by rw[j],(λi d=>A7),(λ_=>rfl),λb e=>by cases e⟩
 .refine⟨_,cap,rfl,(λi d=>⟨g,0,rfl,by rw[size_setCell];exact aP m,?_⟩),(λe=>by cases e),λb e=>by cases e;exact k⟩;have:=h.cells (g:=g) rfl i (.string (l.getD i ByteArray.empty)) (by simp[List.getD,d]);rw[Qo] at this;rw[Zj A7];exact this
def NN(w2 wr:QX)(P:Nat->Prop)(out:QY)(p:List Q_×Bool):Prop:=∃xs,wr.ownsRow w2.heap.size 59 7 out p.1.length xs/\dE w2 P xs p.1/\K_ w2 wr
def NS(w w':QX)(P:Nat->Prop)(v:QY)(l:List Q_):Prop:=∃w2 xs,K_ w w2/\K_ w2 w'/\w'.ownsRow w2.heap.size 59 7 v l.length xs/\dE w2 P xs l
theorem own_ne{b n:Nat}{v:QY}(c:aH w b 57 2)(h:w.ownsRow base 59 7 v n xs):some b≠v.ownBlock:=by
 rcases h.2 with⟨rfl,_⟩|⟨g,f,i,rfl,_,d,_⟩
 .intro e;cases e
 .intro e;simp only[Value.ownBlock,Ql] at e;subst e;obtain⟨j,a,_⟩:=c;rw[d] at a;simp only[Ql,Obj.cells.injEq] at a;exact QK a.2.1 A8
theorem JI{size:Nat}{e:TypeId}{v:QY}{n:Nat}(h:w.ownsRow base e size v n xs){a o:Nat}(b:some a≠v.ownBlock)(u:QY):(w.setCell ⟨a,o,none⟩ u).ownsRow base e size v n xs:=by
 refine⟨h.1,?_⟩;rcases h.2 with c|⟨g,d,f,rfl,i,j,rest⟩
 .exact .inl c
 .refine .inr ⟨g,d,f,rfl,i,?_,rest⟩;rw[Below.heap_setCell _ _ _ _ λe=>b (by simp[Value.ownBlock,e])];exact j
theorem xI(W:bf):∀(bs:List QV)(l:List Q_)(n:QV),dw W l (bs++[n])=if (W n).isSome=true/\(Qq (dw W l bs) n).isNone=true then dw W l bs++[Q_.fresh n] else dw W l bs
 |[],_l,_n=>rfl
 |_b :: bs,_l,n=>xI W bs _ n
theorem Fw(W:bf)(l:List Q_){a:List QV}{k:Nat}(h:k<a.length):dw W l (a.take (k+1))=if (W (a.getD k ByteArray.empty)).isSome=true/\(Qq (dw W l (a.take k)) (a.getD k ByteArray.empty)).isNone=true then dw W l (a.take k)++[Q_.fresh (a.getD k ByteArray.empty)] else dw W l (a.take k):=by
 rw[PH h,xI];simp[List.getD,h]
theorem Br(W:bf):∀(bs:List QV)(l:List Q_),(dw W l bs).length<=l.length+bs.length
 |[],l=>by simp[dw]
 |b :: bs,l=>by
  have h:=Br W bs (if (W b).isSome=true/\(Qq l b).isNone=true then l++[Q_.fresh b] else l);show (dw W (if (W b).isSome=true/\(Qq l b).isNone=true then l++[Q_.fresh b] else l) bs).length<=_
  split at h<;>rename_i hc
  .rw[QI hc];simp at h⊢;omega
  .rw[QJ hc];simp at h⊢;omega
theorem Ei(w:QX)(a:QW)(cap:Nat)(l:List Qz)(b:QV)(c:l.length<=1048576)(d:dS w a l)(h:(Kk l b).isSome=true):
  Calls prog 15 #[.agg #[.slice a l.length cap],.string b] w λe w'=>(∃r:Nat,e=.returned (.b (r:Int)))/\K_ w w':=by
 refine (iY w a cap l b c d).mono ?_;rintro e w' ⟨⟨r,rfl,f⟩,k⟩;rcases f with⟨i,_,rfl,_⟩|⟨_,j⟩
 .exact⟨⟨i,rfl⟩,k⟩
 .rw[j] at h;cases h
theorem Kh(w:QX)(a:QW)(cap:Nat)(l:List Qz)(b:QV)(d:l.length<=1048576)(f:dS w a l)(h:¬(Kk l b).isSome=true):
  Calls prog 15 #[.agg #[.slice a l.length cap],.string b] w λe w'=>e=.returned (.b (-1))/\K_ w w':=by
 refine (iY w a cap l b d f).mono ?_;rintro e w' ⟨⟨r,rfl,i⟩,k⟩;rcases i with⟨j,_,rfl,c,_⟩|⟨rfl,c⟩
 .rw[c] at h;exact QK rfl h
 .exact⟨rfl,k⟩
theorem Mf(w:QX)(b:Nat)(a:QW)(n cap:Nat)(d:QW)(dc:Nat)(l:List Q_)(c:QV)(f:l.length<=1048576)(i:jA w b a n cap d l.length dc)(j:jD w d l)(h:(Qq l c).isNone=true):
  Calls prog 33 #[.h b,.string c] w λe w'=>(∃r:Int,e=.returned (.b r)/\r<0)/\w'=w:=by
 refine (LP w b a n cap d dc l c f i j).mono ?_;rintro e w' ⟨⟨r,rfl,k⟩,m⟩;rcases k with⟨q,_,rfl,p,_⟩|⟨rfl,_⟩
 .rw[p] at h;cases h
 .exact⟨⟨-1,rfl,A7⟩,m⟩
theorem Ku(w:QX)(b:Nat)(a:QW)(n cap:Nat)(d:QW)(dc:Nat)(l:List Q_)(c:QV)(f:l.length<=1048576)(i:jA w b a n cap d l.length dc)(j:jD w d l)(h:¬(Qq l c).isNone=true):
  Calls prog 33 #[.h b,.string c] w λe w'=>(∃r:Nat,e=.returned (.b (r:Int)))/\w'=w:=by
 refine (LP w b a n cap d dc l c f i j).mono ?_;rintro e w' ⟨⟨r,rfl,k⟩,m⟩;rcases k with⟨p,_,rfl,_⟩|⟨_,q⟩
 .exact⟨⟨p,rfl⟩,m⟩
 .rw[q] at h;exact QK rfl h
variable {σ:Env}
section
variable {W:bf}
def pend(W:bf)(σ:Env)(r:Q_):List QV:=
 if r.over=true\/r.Zq=0 then [] else
 match W r.name with
 |none=>[]
 |some A=>(stepOf A r.at').asks.filter λa=>(bI W σ a).isNone
theorem kR :∀{l:List QV},(∃xs,Yz W σ l=some xs)↔∀a∈l,(bI W σ a).isSome=true
 |[]=>⟨λ_ _ h=>(by cases h),λ_=>⟨[],rfl⟩⟩
 |a :: l=>by
  constructor
  .rintro⟨xs,h⟩ b c;unfold Yz at h;cases e:bI W σ a with
   |none=>rw[e] at h;cases h
   |some x=>
    rw[e] at h;simp only at h;cases d:Yz W σ l with
    |none=>rw[d] at h;cases h
    |some f=>
     rcases Qr.1 c with rfl|c
     .rw[e];rfl
     .exact kR.1 ⟨f,d⟩ b c
  .intro h;obtain⟨f,d⟩:=kR.2 λb c=>h b (PS _ c);obtain⟨x,i⟩:=PV.1 (h a A9);exact⟨x :: f,by unfold Yz;rw[i,d]⟩
theorem Az{r:Q_}(n:(W r.name).isSome=true):bg W σ r↔r.over=false/\pend W σ r=[]:=by
 obtain⟨A,e⟩:=PV.1 n;unfold bg pend;constructor
 .rintro⟨b,a⟩;refine⟨b,?_⟩;rcases a with a|⟨p,f,m,h⟩
  .rw[QI (.inr a)]
  .by_cases c:r.Zq=0
   .rw[QI (.inr c)]
   .rw[QJ (by rw[b];simp[c]),e];simp only;rw[e] at m;cases m;rw[List.filter_eq_nil_iff];intro d i;have:=kR.1 ⟨f,h⟩ d i;cases j:bI W σ d with
    |none=>rw[j] at this;cases this
    |some x=>simp
 .rintro⟨b,a⟩;refine⟨b,?_⟩;by_cases c:r.Zq=0
  .exact .inl c
  .right
   rw[QJ (by rw[b];simp[c]),e] at a;simp only at a;rw[List.filter_eq_nil_iff] at a;obtain⟨f,h⟩:=(kR (l:=(stepOf A r.at').asks) (W:=W) (σ:=σ)).2 (λd i=>by
    have:=a d i;cases j:bI W σ d with
    |none=>rw[j] at this;simp at this
    |some x=>rfl)
   exact⟨A,f,e,h⟩
theorem Me{n:QV}{r:Q_}(b:σ n=some r)(_hc:r.over=false)(a:QV):bI W (doX W σ n) a=if a=n/\(W n).isSome=true then (if (Xx W σ r).1.over=true then some ⟨(Xx W σ r).1.fail,(Xx W σ r).1.text⟩ else none) else bI W σ a:=by
 unfold bI;cases c:W a with
 |none=>
  have:¬(a=n/\(W n).isSome=true):=by rintro⟨rfl,h⟩;rw[c] at h;cases h
  rw[QJ this]
 |some A=>
  simp only;by_cases e:a=n
  .subst e;rw[QI ⟨rfl,by rw[c];rfl⟩,iT b]
  .rw[QJ (by rintro⟨h,_⟩;exact e h),eD b,QJ e];cases d:σ a with
   |some x=>rfl
   |none=>
    simp only
    split
    .rename_i x hx
     split at hx
     .cases hx;rfl
     .cases hx
    .rfl
theorem GV{n:QV}{r x:Q_}(d:σ n=some r)(f:r.over=false)(h:(W n).isSome=true):pend W (doX W σ n) x=if (Xx W σ r).1.over=true then (pend W σ x).filter (λa=>!decide (a=n)) else pend W σ x:=by
 unfold pend;by_cases b:x.over=true\/x.Zq=0
 .rw[QI b,QI b]
  split<;>rfl
 .rw[QJ b,QJ b];cases l:W x.name with
  |none=>simp only;split<;>rfl
  |some A=>
   simp only;have j:bI W σ n=none:=by
    unfold bI;obtain⟨B,k⟩:=PV.1 h;rw[k,d];simp[f]
   by_cases c:(Xx W σ r).1.over=true
   .rw[QI c,List.filter_filter]
    congr 1
    funext a
    rw[Me d f];by_cases e:a=n
    .rw[QI ⟨e,h⟩,QI c];simp[e]
    .rw[QJ (by rintro⟨i,_⟩;exact e i)];simp[e]
   .rw[QJ c]
    congr 1
    funext a
    rw[Me d f];by_cases e:a=n
    .rw[QI ⟨e,h⟩,QJ c,e,j]
    .rw[QJ (by rintro⟨i,_⟩;exact e i)]
theorem nZ(σ:Env)(n:QV):pend W σ (Q_.fresh n)=[]:=by
 unfold pend;rw[QI (.inr rfl)]
theorem Fz{r:Q_}(f:aX W){A:gu}(b:W r.name=some A)(m:0<=r.at')(n:r.at' < A.steps.length):(pend W σ r).Nodup:=by
 unfold pend
 split
 .exact List.nodup_nil
 .rw[b];simp only;refine List.Pairwise.filter _ ?_;have a:=(f _ _ b).1.2.2 r.at'.toNat A7;have e:A.steps.getD r.at'.toNat Xq.zero=stepOf A r.at':=rfl;rw[e] at a;cases c:(stepOf A r.at').fin with
  |true=>
   have:=(a.1 c).1;rw[PQ.1 this];exact List.Pairwise.nil
  |false=>
   have h:=(a.2 c).1.2.2.2.1;rw[PM];intro i j k d l e;have:=(h j d).2 i l;simp only[List.getD,PE k,PE d,QL] at this;exact this e
end
variable {σ:Env}
section
variable {W:bf}
def aK(W:bf)(σ:Env)(n:QV):Nat->Q_×List QV
 |0=>(Q_.fresh n,[])
 |k+1=>((Xx W σ (aK W σ n k).1).1,(aK W σ n k).2++(Xx W σ (aK W σ n k).1).2)
def kY(W:bf)(σ:Env)(r:Q_)(L:List QV):Prop:=∃k,aK W σ r.name k= (r,L)/\∀j,j<k->bg W σ (aK W σ r.name j).1
theorem mQ{n:QV}:∀k,(aK W σ n k).1.name=n
 |0=>rfl
 |k+1=>by unfold aK;rw[dz];exact mQ k
theorem kY.start(n:QV):kY W σ (Q_.fresh n) []:=⟨0,rfl,λ_ h=>aS h⟩
theorem kY.unit{r:Q_}{L:List QV}(h:kY W σ r L)(b:bg W σ r):kY W σ (Xx W σ r).1 (L++(Xx W σ r).2):=by
 obtain⟨k,a,c⟩:=h;refine⟨k+1,?_,λj d=>?_⟩
 .rw[dz];unfold aK;rw[a]
 .rw[dz];rcases Nat.lt_or_ge j k with g|g
  .exact c j g
  .have:j=k:=A7;subst this;rw[a];exact b
theorem j_{n m:QV}(a:aT W σ m):∀{k:Nat},(∀j,j<k->bg W σ (aK W σ n j).1)->aK W (doX W σ m) n k=aK W σ n k
 |0,_=>rfl
 |k+1,h=>by
  have b:=j_ (k:=k) a λj c=>h j A7;have:=qf a (h k A7);unfold aK;rw[b,this]
theorem kY.mono{m:QV}{r:Q_}{L:List QV}(h:kY W σ r L)(a:aT W σ m):kY W (doX W σ m) r L:=by
 obtain⟨k,c,b⟩:=h;refine⟨k,by rw[j_ a b];exact c,λj d=>?_⟩;rw[j_ a λi e=>b i A7];exact (b j d).mono a
theorem gm{n:QV}(a:(W n).isSome=true):∀{k:Nat},(∀j,j<k->bg W σ (aK W σ n j).1)->(aK W σ n k).1.over=false->(aK W σ n k).1.Zq=k
 |0,_,_=>rfl
 |k+1,h,ho=>by
  have b:=h k A7;have c:=gm a (k:=k) (λj d=>h j A7) b.1;rcases f_ b (by rw[mQ];exact a) with g|⟨_,_,g⟩
  .show (Xx W σ (aK W σ n k).1).1.Zq=_;rw[g,c];omega
  .exact QK (g.symm.trans ho) A9
end
