import Derived.Test.YtlfofiaagibapaaGreatDoorKCResO
import Derived.Deep.AppendLies
import Derived.Test.YtlfofiaagibapaaGreatDoorKWGo5
set_option maxRecDepth 100000
set_option maxHeartbeats 25600000
namespace Go.Proofs.YtlfofiaagibapaaGreatDoor
open Go.RowKit Go.Proofs.Tryz
theorem aW{P:Program}{e:TypeId}{z:NP}{size c:Nat}(h:(P.info? e).map (λi=>(i.zero,i.size,i.bytes))=some (some z,size,c)):∃i,P.info? e=some i/\i.zero=some z/\i.size=size/\i.bytes=c:=by
 let⟨i,f,a⟩:=Option.map_eq_some_iff.1 h;simp only[Prod.mk.injEq] at a;exact⟨i,f,a.1,a.2.1,a.2.2⟩
theorem oL{W:dC}{σ:Env}{a:NL}{x:Xz}:∀{l:List NL}{xs:List Xz},Yz W σ l=some xs->bD W σ a=some x->Yz W σ (l++[a])=some (xs++[x])
 |[],xs,h,hx=>by
  simp only[Yz,Na] at h;subst h;simp[Yz,hx]
 |b :: l,xs,h,hx=>by
  unfold Yz at h;cases c:bD W σ b with
  |none=>simp[c] at h
  |some y=>
   cases d:Yz W σ l with
   |none=>simp[c,d] at h
   |some ys=>
    simp only[c,d,Na] at h;subst h;show Yz W σ (b :: (l++[a]))=_;unfold Yz;rw[c,oL d hx]
    rfl
theorem oZ{W:dC}{σ:Env}{a:NL}(d:bD W σ a=none):∀{l:List NL},a∈l->Yz W σ l=none
 |b :: l,h=>by
  unfold Yz;rcases Nh.1 h with rfl|h
  .rw[d]
  .cases e:bD W σ b with
   |none=>rfl
   |some y=>simp only[oZ d h]
def IX(Kq:List Qz)(l:List Q_)(asks:List NL)(w':NN)(e:Ending):Prop:=∃(d:NM)(n c:Nat)(ok:Bool),e=.returned (.tuple #[.slice d n c,.bool ok])/\(ok=true->∃xs,Yz (Kk Kq) (Qq l) asks=some xs/\n=xs.length/\fD w' d xs)/\(ok=false->Yz (Kk Kq) (Qq l) asks=none)
theorem pE(w:NN)(kb:Nat)(a:NM)(cap:Nat)(Kq:List Qz)(d:NM)(dc:Nat)(l:List Q_)(s:Xq)(n C:NM)(v D:Nat)(a1:Kq.length<=1048576)(a2:l.length<=1048576)(b8:s.asks.length<=1000)(a3:∀x∈s.asks,x.size<=1000)(M:gL w kb a Kq.length cap d l.length dc)(N:bQ w a Kq)(O:bN w d l)(P:Strs w n s.asks):Calls prog 109 #[.c kb,.agg #[.slice n s.asks.length v,.a s.on,.slice C s.cases.length D,.a s.els,.a s.fall,.bool s.fin,.bool s.bad,.string s.give]] w λe w'=>IX Kq l s.asks w' e/\K_ w w':=by
 have m:K_ w (w.alloc (.cells #[.slice n s.asks.length v,.a s.on,.slice C s.cases.length D,.a s.els,.a s.fall,.bool s.fin,.bool s.bad,.string s.give] 128)):=ah _ _;let⟨b,p⟩:=aj (w.alloc (.cells #[.slice n s.asks.length v,.a s.on,.slice C s.cases.length D,.a s.els,.a s.fall,.bool s.fin,.bool s.bad,.string s.give] 128));have q0:b.cell? ⟨w.heap.size,0,none⟩=some (.slice n s.asks.length v):=by rw[p];exact X_ w _ _ 0 _ rfl
 have Q:w.heap.size<b.heap.size:=by rw[p];simp
 rw[<-p] at m;have R:K_ b (b.alloc (.cells #[] 100)):=ah _ _;have S:Hid ((b.alloc (.cells #[] 100)).ownsRow b.heap.size 100 2 (.b b.heap.size 0 0) 0 (dI [])):=MQ b #[] 0 (Mj _) (Ml _) rfl;have a4:=Kz (P.kept m);have a5:=Kz (N.kept m);have a6:=Kz (O.kept m);have a7:=Kz (M.kept m);have T:=Kz m;clear P N O M m;go_enter func109,ntmps109
 go_upto_region 1 with fail
 rw[<-p];clear p;go_wp2
 go_loopg [6,7] s.asks.length (λgg x6 x7 wr=>∃(i:Nat)(c:List Xz),x7=.a (i:Int)/\i+gg=s.asks.length/\c.length=i/\Hid (Yz (Kk Kq) (Qq l) (s.asks.take i)=some c)/\K_ b wr/\Hid (wr.ownsRow b.heap.size 100 2 x6 c.length (dI c)))
 case atStart=>exact⟨0,[],rfl,E5,rfl,Kz rfl,R,S⟩
 case round=>
  clear S R;obtain⟨i,c,rfl,hi,E,U,k,F⟩:=hrel;have V:=Kz E;clear E;obtain⟨G,H,rfl⟩:=aF F.o;have b9:=(k.cell Q).trans q0;have cz:=Mk Q k.size;by_cases c0:(i:Int)<(s.asks.length:Int)
  .have q:i<s.asks.length:=E5;obtain⟨sb,so,rfl,a8,W⟩:=(a4.o.kept k) i q;let⟨I,y⟩:=aj (s.asks.getD i ByteArray.empty);rw[<-y] at W;have a9:I.size<=1000:=by rw[y];exact a3 _ (by simp[List.getD,q])
   have X:=Kz y;clear y;go_wp2_with fail
   refine (Dh wr kb a cap Kq d dc l I a1 a2 a9 (a7.o.kept k) (a5.o.kept k) (a6.o.kept k)).mono ?_;rintro e j ⟨⟨f,t,ok,rfl,Y⟩,r⟩;have J:=Kz Y;clear Y W a8;have K:K_ j (j.alloc (.cells #[.bool f,.string t] 100)):=ah _ _;cases ok
   .go_wp2
    go_ret2
    refine⟨⟨G,_,H,false,rfl,(λh=>(by cases h)),λ_=>oZ (a:=I) (by simpa using J.o) (by rw[X.o];simp[List.getD,q])⟩,T.o.trans (k.trans (r.trans K))⟩
   .have z:K_ j ((j.alloc (.cells #[.bool f,.string t] 100)).alloc (.cells #[.bool f,.string t] 100)):=K.alloc _;have r0:=X_ j #[.bool f,.string t] 100 0 _ rfl;have r1:=X_ j #[.bool f,.string t] 100 1 _ rfl;simp only[MR] at r0 r1;have Z:=Kz (au F.o (r.trans z));have b0:=(k.trans (r.trans z)).size;have b1:Hid (∀A u,([.bool f,.string t]:List NP)[A]? =some u->((j.alloc (.cells #[.bool f,.string t] 100)).alloc (.cells #[.bool f,.string t] 100)).cell? ((⟨j.heap.size+1,0,none⟩:Addr).add A)=some u):=λA u B=>by have:=X_ (j.alloc (.cells #[.bool f,.string t] 100)) #[.bool f,.string t] 100 A u B;rw[MZ] at this;rw[Nf];exact this
    have b2:Hid (∀u∈([.bool f,.string t]:List NP),u.oneCell'=true):=λu B=>by simp only[Nh,Ni,or_false] at B;rcases B with rfl|rfl<;>rfl
    have KK:=Kz (k.trans (r.trans z));have E:c.length<=1000:=by have:=V.o;omega
    let⟨ic,b3,b4,b5,b6⟩:=aW Tryz.Dg;clear r K z;go_wp2_with (at_builtin;refine wpList_append_own _ rfl (.tmp 31) (.tmp 33) 164 rfl b.heap.size 100 ic _ 2 24 underlying164 b3 b4 b5 b6 rfl E8 (.slice G c.length H) c.length (dI c) rfl Z.o ⟨j.heap.size+1,0,none⟩ 1 1 [.bool f,.string t] rfl rfl b1.o b2.o F5 E5 b0 ?_;intro v' w6 L a0 _;have KP:=aK KK.out (Mj _) Z.o a0;have HP:=Kz L;obtain⟨c1,c3,rfl⟩:=aF L;clear L a0)
    go_roundg (gk-1)
    case measure=>omega
    case rel=>exact⟨i+1,c++[⟨f,t⟩],F3,E5,by rw[M_,V.o];rfl,Kz (by rw[Ms q];exact oL U.o (by rw[X.o] at J;simpa[List.getD,q] using J.o)),KP,Kz (by rw[pR,M_];exact HP.o)⟩
  .have b7:i=s.asks.length:=E5;go_wp2
   go_ret2
   refine⟨⟨G,_,H,true,rfl,λ_=>⟨c,?_,rfl,?_⟩,(λh=>(by cases h))⟩,T.o.trans k⟩
   .have:=U.o;rw[b7,MS] at this;exact this
   .obtain⟨d2,c2,e2,_,hT⟩:=jJ F.o;simp only[Nb,true_and] at e2;obtain⟨rfl,_⟩:=e2;exact hT.answers
def II(Kq:List Qz)(r:Q_):Prop:=∃A,Kk Kq r.name=some A/\0<=r.at'/\r.at' < A.steps.length
def bH(W:dC):Prop:=∀n A,W n=some A->gQ A/\jo n
theorem uO :∀{xs:List Xz}{k j:Nat},oK xs k=some j->∃i,j=k+i/\i<xs.length/\iI (xs.getD i Xz.zero)/\mM xs iI i
 |[],_,_,h=>by simp[oK] at h
 |x :: l,k,j,h=>by
  unfold oK at h;by_cases a:x.fail=true
  .rw[Nz a] at h;cases h;exact⟨0,rfl,E9,a,λj b=>aO b⟩
  .rw[NA a] at h;let⟨i,f,c,d,e⟩:=uO h;refine⟨i+1,E5,by simpa using c,d,λj b=>?_⟩;cases j with
   |zero=>exact a
   |succ j=>exact e j E5
theorem uH :∀{xs:List Xz}{k:Nat},oK xs k=none->mM xs iI xs.length
 |[],_,_=>λj b=>aO b
 |x :: l,k,h=>by
  unfold oK at h;by_cases c:x.fail=true
  .rw[Nz c] at h;cases h
  .rw[NA c] at h;have:=uH h;intro j b;cases j with
   |zero=>exact c
   |succ j=>exact this j (by simpa using b)
theorem uo(t:NL)(els:Int):∀(l:List bU),(∃i,i<l.length/\(l.getD i bU.zero).text=t/\(∀j,j<i->(l.getD j bU.zero).text≠t)/\pG t els l= (l.getD i bU.zero).goto)\/((∀j,j<l.length->(l.getD j bU.zero).text≠t)/\pG t els l=els)
 |[]=>.inr ⟨λj a=>aO a,rfl⟩
 |c :: l=>by
  by_cases b:c.text=t
  .exact .inl ⟨0,E9,b,λj a=>aO a,by simp[pG,b,List.getD]⟩
  .have f:pG t els (c :: l)=pG t els l:=by simp[pG,b]
   rw[f];rcases uo t els l with⟨i,d,e,h,k⟩|⟨d,e⟩
   .refine .inl ⟨i+1,by simpa using d,e,λj a=>?_,k⟩;cases j with
    |zero=>exact b
    |succ j=>exact h j E5
   .refine .inr ⟨λj a=>?_,e⟩;cases j with
    |zero=>exact b
    |succ j=>exact d j (by simpa using a)
variable {xs:List Xz}
theorem jc{s:Xq}(h:xG s xs):Followed s xs (eT s xs):=by
 refine .inr ⟨h,?_⟩;unfold eT;cases e:oK xs 0 with
 |some j=>
  let⟨i,p,f,k,l⟩:=uO e;have:j=i:=E5;subst this;refine .inl ⟨j,f,k,l,?_⟩;by_cases a:s.fall= -1
  .exact .inl ⟨a,by simp[a]⟩
  .exact .inr ⟨a,by simp[a]⟩
 |none=>
  refine .inr ⟨uH e,_,?_,rfl⟩;by_cases b:xs.length=0
  .rw[Nz b];exact .inl ⟨b,rfl⟩
  .rw[NA b];refine .inr ⟨b,?_⟩;rcases uo (mF xs s.on) s.els s.cases with⟨i,c,d,m,n⟩|⟨c,d⟩
   .exact .inl ⟨i,c,d,m,n⟩
   .exact .inr ⟨c,d⟩
theorem kX.KQ{cost:Int}{l:List Xq}{a:Int}{ans:List Xz}{g:b_}(h:kX cost l a ans g):(g.code=0->g.over=false->0<=g.at'/\g.at' < l.length)/\(g.over=true->7<=g.text.size):=by
 rcases h with⟨_,rfl⟩|⟨⟨c,⟨w,x⟩,d⟩,h⟩
 .exact⟨λe=>by simp[b_.none] at e,λe=>by simp[b_.none] at e⟩
 .have f:a.toNat<l.length:=E5;have j:ll (jK l a) l.length:=c.2.2 a.toNat f;obtain⟨⟨_,_,_,k,_,b,m,_⟩,n⟩:=j.2 d;rcases h with⟨_,rfl⟩|⟨p,⟨i,q,_,_,⟨_,rfl⟩|⟨y,rfl⟩⟩|⟨_,r,s,rfl⟩⟩
  .exact⟨λe=>by simp[b_.none] at e,λe=>by simp[b_.none] at e⟩
  .refine⟨λ_ e=>by simp at e,λ_=>?_⟩;have:=(k i (by rw[<-p.1];exact q)).1.1;show 7<=(jR (jK l a) i).size;unfold jR;rw[ByteArray.size_append];show 7<=6+_;omega
  .exact⟨λ_ _=>⟨by show 0<=(jK l a).fall;omega,m.2⟩,λe=>by simp at e⟩
  .refine⟨λ_ _=>?_,λe=>by simp at e⟩;show 0<=r/\r<l.length;rcases s with⟨_,rfl⟩|⟨_,⟨t,v,_,_,rfl⟩|⟨_,rfl⟩⟩
   .exact b
   .exact (n t v).2
   .exact b
theorem xE(s:Xq)(xs:List Xz):(eT s xs).code=0:=by
 unfold eT
 split
 .split<;>rfl
 .rfl
structure Q_.Good (Kq:List Qz)(r:Q_):Prop where
 act:II Kq r
 lo:0<=r.Zq
 hi:r.Zq<=20
 tl:(r.texts.length:Int)<=5*r.Zq
 ts:∀t∈r.texts,t.size<=200
 tx:r.text.size<=200
 stp:∀A,Kk Kq r.name=some A->r.over=false->r.Zq≠0->(stepOf A r.at').fin=false
def dz(Kq:List Qz)(σ:Env):Prop:=∀n r,σ n=some r->r.name=n/\r.Good Kq
theorem GI{n:NL}(h:n.size<=20):(xm n).size<=200:=by
 unfold xm;rw[ByteArray.size_append];show 3+n.size<=200;omega
variable {Kq:List Qz}
theorem wV{σ:Env}{n:NL}{x:Xz}(b:dz Kq σ)(c:n.size<=20)(h:bD (Kk Kq) σ n=some x):x.text.size<=200:=by
 unfold bD at h
 split at h
 .simp only[Na] at h;subst h;exact GI c
 .split at h
  .rename_i r hr
   split at h
   .simp only[Na] at h;subst h;exact (b n r hr).2.tx
   .cases h
  .cases h
theorem pI{W:dC}{σ:Env}{p:Xz->Prop}:∀{l:List NL}{xs:List Xz},(∀n∈l,∀x,bD W σ n=some x->p x)->Yz W σ l=some xs->xs.length=l.length/\∀x∈xs,p x
 |[],xs,_,h=>by
  simp only[Yz,Na] at h;subst h;exact⟨rfl,λx f=>by cases f⟩
 |a :: l,xs,hp,h=>by
  unfold Yz at h;cases b:bD W σ a with
  |none=>simp[b] at h
  |some x=>
   cases c:Yz W σ l with
   |none=>simp[b,c] at h
   |some ys=>
    simp only[b,c,Na] at h;subst h;let⟨i,j⟩:=pI (p:=p) (λn k=>hp n (MH _ k)) c;refine⟨by simp[i],λy d=>?_⟩;rcases Nh.1 d with rfl|d
    .exact hp a E9 y b
    .exact j y d
theorem nQ{σ:Env}{s:Xq}(b:dz Kq σ)(c:∀n∈s.asks,n.size<=20)(h:Yz (Kk Kq) σ s.asks=some xs):xG s xs/\∀x∈xs,x.text.size<=200:=by
 let⟨d,a⟩:=pI (p:=λx=>x.text.size<=200) (λn e x f=>wV b (c n e) f) h;refine⟨⟨d,λ⟨i,j,k⟩=>?_⟩,a⟩;have:=a (xs.getD i Xz.zero) (by simp[List.getD,j]);unfold pq at k;omega
theorem iw{A:fO}(e:gQ A){i:Int}(h:0<=i)(k:i<A.steps.length):(stepOf A i).asks.length<=5/\∀n∈(stepOf A i).asks,jo n:=by
 have b:ll (stepOf A i) A.steps.length:=e.2.2 i.toNat E5;cases c:(stepOf A i).fin with
 |true=>
  have:=(b.1 c).1;refine⟨E5,λn a=>?_⟩;rw[NE this] at a;cases a
 |false=>
  have:=(b.2 c).1;refine⟨this.2.2.1,λn a=>?_⟩;let⟨j,d,f⟩:=MB a;have:=(this.2.2.2.1 j d).1;simp only[List.getD,Mq d,f,NC] at this;exact this
theorem z_{s:Xq}{i:Nat}(h:∀n∈s.asks,n.size<=20):(jR s i).size<=200:=by
 unfold jR;rw[ByteArray.size_append];show 6+_<=200;by_cases a:i<s.asks.length
 .have:=h (s.asks.getD i ByteArray.empty) (by simp[List.getD,a]);omega
 .have e:s.asks.getD i ByteArray.empty=ByteArray.empty:=by simp[List.getD,a]
  rw[e]
  decide
theorem JX(give:NL)(l:List NL):(nL give l).size<=200:=by
 show (mX give.data.toList (texts l)).toArray.size<=200;unfold mX
 split
 .simp
 .split
  .simpa using ‹_›
  .simp[iL]
theorem rC(xs:List Xz):(aL xs).length<=xs.length:=by
 unfold aL;rw[Nt];exact List.length_filter_le _ _
theorem nR{t:NL}(h:t∈aL xs):∃x∈xs,x.text=t:=by
 unfold aL at h;rw[MM] at h;let⟨x,b,e⟩:=h;exact⟨x,(List.mem_filter.1 b).1,e⟩
theorem uY{A:fO}{r:Q_}(a:Kk Kq r.name=some A)(b:0<=r.at')(c:r.at' < A.steps.length)(lo:0<=r.Zq)(hi:r.Zq<20)(d:(r.texts.length:Int)<=5*(r.Zq+1))(e:∀t∈r.texts,t.size<=200)(f:r.text.size<=200):(ek A r).1.Good Kq:=by
 unfold ek;cases h:(stepOf A r.at').fin with
 |true=>
  simp only[if_true];exact⟨⟨A,a,b,c⟩,by show 0<=r.Zq+1;omega,by show r.Zq+1<=20;omega,d,e,JX _ _,λ_ _ i=>by simp at i⟩
 |false=>
  simp only[Bool.false_eq_true,if_false];refine⟨⟨A,a,b,c⟩,by show 0<=r.Zq+1;omega,by show r.Zq+1<=20;omega,d,e,f,λj k _ _=>?_⟩;have:A=j:=Nl (a.symm.trans k);subst this;exact h
theorem dU{σ:Env}{r:Q_}(y:bH (Kk Kq))(z:dz Kq σ)(h:r.Good Kq)(j:aS (Kk Kq) σ r):(Xx (Kk Kq) σ r).1.Good Kq:=by
 let⟨A,b,d,e⟩:=h.act;have k:=(y _ _ b).1;unfold Xx;rw[b];simp only;by_cases f:r.Zq=0
 .rw[Nz f];have:=h.tl;exact uY b d e h.lo E5 E5 h.ts h.tx
 .rw[NA f];rcases j.2 with B|⟨R,a,l,m⟩
  .exact NB B f
  .rw[b] at l;cases l;rw[m];simp only;have S:=h.lo;have T:=h.hi;have U:=h.tl;by_cases p:r.Zq=20
   .rw[Nz p];exact⟨⟨A,b,d,e⟩,h.lo,h.hi,h.tl,h.ts,by show iT.size<=200;decide,λ_ _ h=>by simp at h⟩
   .rw[NA p];let⟨C,D⟩:=iw k d e;have q:∀n∈(stepOf A r.at').asks,n.size<=20:=λn E=>(D n E).2.1
    let⟨s,F⟩:=nQ z q m;have G:=jc s;have V:kX A.cost A.steps r.at' a (eT (stepOf A r.at') a):=.inr ⟨⟨k,⟨d,e⟩,h.stp A b j.1 f⟩,G⟩;by_cases c:(eT (stepOf A r.at') a).over=true
    .rw[Nz c];refine⟨⟨A,b,d,e⟩,by show 0<=r.Zq+1;omega,by show r.Zq+1<=20;omega,by show (r.texts.length:Int)<=5*(r.Zq+1);omega,h.ts,?_,λ_ _ h=>by simp at h⟩;show (eT (stepOf A r.at') a).text.size<=200;unfold eT
     split
     .split
      .exact z_ q
      .show (⟨#[]⟩:NL).size<=200;decide
     .show (⟨#[]⟩:NL).size<=200;decide
    .rw[NA c];have t:0<=(eT (stepOf A r.at') a).at'/\(eT (stepOf A r.at') a).at' < A.steps.length:=by
      have H:=h.stp A b j.1 f;have I:ll (stepOf A r.at') A.steps.length:=k.2.2 r.at'.toNat E5;let⟨⟨_,_,_,_,_,v,J,_⟩,K⟩:=I.2 H;unfold eT at c⊢
      split
      .rename_i w hi'
       rw[hi'] at c;simp only at c;by_cases x:(stepOf A r.at').fall= -1
       .rw[Nz x] at c;simp at c
       .rw[NA x];exact⟨by show 0<=(stepOf A r.at').fall;omega,J.2⟩
      .show 0<=(if a.length=0 then _ else _)/\(if a.length=0 then _ else _)<_
       split
       .exact v
       .rcases uo (mF a (stepOf A r.at').on) (stepOf A r.at').els (stepOf A r.at').cases with⟨w,L,_,_,M⟩|⟨_,N⟩
        .rw[M];exact (K w L).2
        .rw[N];exact v
     have W:=rC a;have X:a.length<=5:=by rw[s.1];exact C
     refine uY (r:={r with texts:=r.texts++aL a,at':=(eT (stepOf A r.at') a).at'}) b t.1 t.2 h.lo (by show r.Zq<20;omega) ?_ (λO i=>?_) h.tx
     .show ((r.texts++aL a).length:Int)<=5*(r.Zq+1);rw[M_]
      push_cast
      omega
     .rcases Mv.1 i with i|i
      .exact h.ts O i
      .obtain⟨P,Q,rfl⟩:=nR i;exact F P Q
def LM(w w':NN)(a:NM)(n cap:Nat)(d:NM)(m dc:Nat)(e:Ending):Prop:=∃kb,e=.returned (.c kb)/\gL w' kb a n cap d m dc/\K_ w w'
theorem oP(w:NN)(a:NM)(n cap:Nat)(b:NM)(c f:Nat)(d:NM)(m dc:Nat):Calls prog 107 #[.agg #[.slice a n cap],.agg #[.slice b c f,.slice d m dc]] w λe w'=>LM w w' a n cap d m dc e:=by
 go_enter func107,ntmps107
 go_wp2
 go_ret
 have h:=ay.made ((w.alloc (.cells #[.slice a n cap] 25)).alloc (.cells #[.slice b c f,.slice d m dc] 43)) #[.slice a n cap,.slice d m dc] 106;have i:=X_ ((w.alloc (.cells #[.slice a n cap] 25)).alloc (.cells #[.slice b c f,.slice d m dc] 43)) #[.slice a n cap,.slice d m dc] 106 0 _ rfl;have j:=X_ ((w.alloc (.cells #[.slice a n cap] 25)).alloc (.cells #[.slice b c f,.slice d m dc] 43)) #[.slice a n cap,.slice d m dc] 106 1 _ rfl;simp only[MZ,MR] at h i j;exact⟨_,rfl,⟨h,i,j⟩,((ah w _).alloc _).alloc _⟩
def jl(Kq:List Qz):Prop:=∀y∈Kq,∀s∈y.steps,s.asks.length<=1000/\∀x∈s.asks,x.size<=1000
theorem zV(w:NN)(a:NM)(cap:Nat)(Kq:List Qz)(i:NM)(j k:Nat)(d:NM)(dc:Nat)(l:List Q_)(r:Q_)(xa:NM)(xc:Nat)(V:Kq.length<=1048576)(a7:l.length<=1048576)(W:jl Kq)(a8:r.over=false->r.Zq≠0->II Kq r)(X:bQ w a Kq)(hS:bN w d l):Calls prog 113 #[.agg #[.slice a Kq.length cap],.agg #[.slice i j k,.slice d l.length dc],.agg #[.string r.name,.bool r.over,.bool r.fail,.string r.text,.a r.at',.a r.Zq,.slice xa r.texts.length xc]] w λe w'=>Says e (aS (Kk Kq) (Qq l) r)/\K_ w w':=by
 let⟨c,q⟩:=aj (((w.alloc (.cells #[.slice a Kq.length cap] 25)).alloc (.cells #[.slice i j k,.slice d l.length dc] 43)).alloc (.cells #[.string r.name,.bool r.over,.bool r.fail,.string r.text,.a r.at',.a r.Zq,.slice xa r.texts.length xc] 48));have Y:K_ w c:=by rw[q];exact ((ah _ _).alloc _).alloc _
 have Z:c.heap.size=w.heap.size+3:=by rw[q];simp
 have b0:c.cell? ⟨w.heap.size,0,none⟩=some (.slice a Kq.length cap):=by rw[q,K_.cell (w:=w.alloc (.cells #[.slice a Kq.length cap] 25)) ((ah _ _).alloc _) E9];exact X_ w _ _ 0 _ rfl
 have s0:c.cell? ⟨w.heap.size+1,0,none⟩=some (.slice i j k):=by have:=X_ (w.alloc (.cells #[.slice a Kq.length cap] 25)) #[.slice i j k,.slice d l.length dc] 43 0 _ rfl;rw[MZ] at this;rw[q,K_.cell (w:=(w.alloc (.cells #[.slice a Kq.length cap] 25)).alloc (.cells #[.slice i j k,.slice d l.length dc] 43)) (ah _ _) E9];exact this
 have s1:c.cell? ⟨w.heap.size+1,1,none⟩=some (.slice d l.length dc):=by have:=X_ (w.alloc (.cells #[.slice a Kq.length cap] 25)) #[.slice i j k,.slice d l.length dc] 43 1 _ rfl;rw[MZ] at this;rw[q,K_.cell (w:=(w.alloc (.cells #[.slice a Kq.length cap] 25)).alloc (.cells #[.slice i j k,.slice d l.length dc] 43)) (ah _ _) E9];exact this
 have C:∀F G,(#[.string r.name,.bool r.over,.bool r.fail,.string r.text,.a r.at',.a r.Zq,.slice xa r.texts.length xc]:Array NP).toList[F]? =some G->M4 c (w.heap.size+2) F G:=λF G t=>by have:=X_ ((w.alloc (.cells #[.slice a Kq.length cap] 25)).alloc (.cells #[.slice i j k,.slice d l.length dc] 43)) #[.string r.name,.bool r.over,.bool r.fail,.string r.text,.a r.at',.a r.Zq,.slice xa r.texts.length xc] 48 F G t;rw[MZ,MZ,MR] at this;rw[q];exact this
 have r0:=C 0 _ rfl;have J:=C 1 _ rfl;have r4:=C 4 _ rfl;have r5:=C 5 _ rfl;have z0:w.heap.size<c.heap.size:=E5;have z1:w.heap.size+1<c.heap.size:=E5;have z2:w.heap.size+2<c.heap.size:=E5;have⟨z,c1⟩:=aH Y Z;clear C Y Z;go_enter func113,ntmps113
 go_upto_region 1 with fail
 rw[<-q];clear q;cases A:r.over
 .rw[A] at J;by_cases t:r.Zq=0
  .have a9:(r.Zq == 0)=true:=by simp[t]
   go_wp2
   go_ret
   exact⟨.yes ⟨A,.inl t⟩,z.o⟩
  .have a9:(r.Zq == 0)=false:=by simpa using t
   let⟨c2,H,b1,a0⟩:=a8 A t;have f:Hid (∀w',K_ c w'->M4 w' w.heap.size 0 (.slice a Kq.length cap)/\M4 w' (w.heap.size+1) 0 (.slice i j k)/\M4 w' (w.heap.size+1) 1 (.slice d l.length dc)/\M4 w' (w.heap.size+2) 0 (.string r.name)/\M4 w' (w.heap.size+2) 4 (.a r.at')):=λw' K=>⟨(K.cell z0).trans b0,(K.cell z1).trans s0,(K.cell z1).trans s1,(K.cell z2).trans r0,(K.cell z2).trans r4⟩
   go_upto_region 5 with fail
   refine ik 22 f.o (aY c) λh=>?_;have KD:=aY c;generalize b2:c.drew=wd at h KD⊢;clear b2 b0 s0 s1 r0 r4 J r5;refine ae 0 h ?_;refine ae 1 h ?_;refine ak 3 h ?_;refine ae 7 h ?_;refine ae 13 h ?_;refine ae 14 h ?_;refine aG 2 λK b=>?_;go_simp
   go_at_call 107
   refine (oP wd a Kq.length cap i j k d l.length dc).mono ?_;rintro e w1 ⟨kb,rfl,a1,k1⟩;have L:=KD.trans k1;have b3:=Kz a1;clear a1 k1;dsimp only;refine af b (λ_=>f.o _ L) ?_;clear b K;clear h;refine aG 8 λK b=>?_;go_simp
   go_at_call 61
   refine (fe w1 a cap Kq r.name V ((X.kept z.o).kept L)).mono ?_;rintro e w2 ⟨⟨c3,rfl,hq⟩,M⟩;have m:=L.trans M;have b4:=Kz (b3.o.kept M);clear M;rcases hq with⟨N,hk,rfl,v,_⟩|⟨rfl,v⟩
   .rw[H] at v;simp only[Option.some.injEq] at v;have O:=(X.kept z.o).kept m;obtain⟨nb,nq,cs,rfl,c4,P,na,nc,rfl,Q⟩:=O N hk;let⟨y,R⟩:=aj (Kq.getD N Qz.zero);rw[<-R] at P Q v;have n2:=P 2 _ rfl;subst v;obtain⟨B,D⟩:∃B:Nat,r.at'= (B:Int):=⟨r.at'.toNat,E5⟩;have a2:B<y.steps.length:=by have n:=a0;rw[D] at n;dsimp only at n;omega
    obtain⟨tb,tq,c5,rfl,c6,p,aa,ca,ac,cc,rfl,S,a3,_⟩:=Q B a2;let⟨s,I⟩:=aj (y.steps.getD B Xq.zero);rw[<-I] at p S a3;have t0:=p 0 _ rfl;have t1:=p 1 _ rfl;have t2:=p 2 _ rfl;have t3:=p 3 _ rfl;have t4:=p 4 _ rfl;have t5:=p 5 _ rfl;have t6:=p 6 _ rfl;have t7:=p 7 _ rfl;rw[Ng] at t0;have c7:(N:Int)<(Kq.length:Int):=E5;have c8:(B:Int)<(y.steps.length:Int):=E5;have T:s∈y.steps:=by rw[I];simp[List.getD,a2]
    have U:y∈Kq:=by rw[R];simp[List.getD,hk]
    have b5:=(W y U s T).1;have b6:=(W y U s T).2;have b7:=Kz S;have b8:=Kz (hS.kept (z.o.trans m));have b9:=Kz O;have a4:Hid (stepOf ⟨y.cost,y.steps⟩ r.at'=s):=by show _=_;unfold stepOf;rw[D,I];rfl
    have HA:=Kz H;clear P p S a3 Q R I H O b1 a0 T U;rw[D];have c9:=Kz D;clear D;dsimp only;refine af b (λ_=>f.o _ m) ?_;clear b K;refine ai 9 λK b=>?_;go_simp
    refine af b (λ_=>f.o _ m) ?_;clear b K;refine ai 10 λK b=>?_;go_simp
    refine af b (λ_=>f.o _ m) ?_;clear b K;refine ai 11 λK b=>?_;go_simp
    refine af b (λ_=>f.o _ m) ?_;clear b K;refine ai 12 λK b=>?_;go_simp
    refine af b (λ_=>f.o _ m) ?_;clear b K;refine ai 15 λK b=>?_;go_simp
    refine af b (λ_=>f.o _ m) ?_;clear b K;refine ai 16 λK b=>?_;go_simp
    refine af b (λ_=>f.o _ m) ?_;clear b K;refine aG 17 λK b=>?_;go_simp
    go_at_call 109
    refine (pE w2 kb (some ⟨nb,nq,none⟩) cap Kq d dc l s aa ac ca cc V a7 b5 b6 b4.o b9.o b8.o b7.o).mono ?_;rintro e w3 ⟨⟨d0,n3,d1,ok,rfl,a5,a6⟩,k3⟩;have E:=m.trans k3;have⟨HY,c0⟩:=aH a5 a6;clear a5 a6 k3 t0 t1 t2 t3 t4 t5 t6 t7 n2;dsimp only;refine af b (λ_=>f.o _ E) ?_;clear b K;refine ai 18 λK b=>?_;go_simp
    refine af b (λ_=>f.o _ E) ?_;clear b K;have h:=f.o _ E;refine ae 19 h ?_;refine ae 20 h ?_;refine ai 21 λK b=>?_;go_simp
    refine af b (λ_=>f.o _ E) ?_;clear b K;refine ai 22 λK b=>?_;go_simp
    refine af b (λx=>NB rfl x) ?_;clear b K;refine aC ?_;go_wp2
    go_ret
    refine⟨?_,z.o.trans E⟩;cases ok
    .refine .no λx=>?_
     rcases x.2 with x|⟨A',xs,n,h2⟩
     .exact t x
     .rw[HA.o] at n;cases n;rw[a4.o,c0.o rfl] at h2;cases h2
    .obtain⟨xs,n,_⟩:=HY.o rfl;exact .yes ⟨A,.inr ⟨_,xs,HA.o,by rw[a4.o];exact n⟩⟩
   .rw[H] at v;cases v
 .rw[A] at J;go_wp2
  go_ret
  exact⟨.no (λx=>(by have n:=x.1;rw[A] at n;cases n)),z.o⟩
def bT(W:dC):List Q_->List NL->List Q_
 |l,[]=>l
 |l,a :: bs=>bT W (if (W a).isSome=true/\(Qq l a).isNone=true then l++[Q_.fresh a] else l) bs
theorem Ho(l:List Q_)(x:Q_)(m:NL):Qq (l++[x]) m=match Qq l m with|some r=>some r|none=>if x.name=m then some x else none:=by
 unfold Qq;rw[List.find?_append];cases h:l.find? λr=>decide (r.name=m) with
 |some r=>rfl
 |none=>
  by_cases e:x.name=m
  .simp[e]
  .simp[e]
theorem mZ(W:dC):∀(bs:List NL)(l:List Q_)(m:NL),Qq (bT W l bs) m=match Qq l m with|some r=>some r|none=>if eO bs m=true/\(W m).isSome=true then some (Q_.fresh m) else none
 |[],l,m=>by
  show Qq l m=_;cases Qq l m with
  |some r=>rfl
  |none=>simp[eO]
 |a :: bs,l,m=>by
  show Qq (bT W (if (W a).isSome=true/\(Qq l a).isNone=true then l++[Q_.fresh a] else l) bs) m=_;rw[mZ W bs];have d:eO (a :: bs) m=true↔a=m\/eO bs m=true:=by simp[eO]
  by_cases e:(W a).isSome=true/\(Qq l a).isNone=true
  .rw[Nz e,Ho];cases k:Qq l m with
   |some r=>rfl
   |none=>
    simp only;by_cases h:a=m
    .subst h;have i:(Q_.fresh a).name=a:=rfl;rw[Nz i];simp only;rw[Nz ⟨d.2 (.inl rfl),e.1⟩]
    .have i:(Q_.fresh a).name≠m:=h;rw[NA i];simp only;by_cases b:eO bs m=true/\(W m).isSome=true
     .rw[Nz b,Nz ⟨d.2 (.inr b.1),b.2⟩]
     .rw[NA b,NA];rintro⟨j,f⟩;rcases d.1 j with c|c
      .exact h c
      .exact b ⟨c,f⟩
  .rw[NA e];cases k:Qq l m with
   |some r=>rfl
   |none=>
    simp only;by_cases b:eO bs m=true/\(W m).isSome=true
    .rw[Nz b,Nz ⟨d.2 (.inr b.1),b.2⟩]
    .rw[NA b,NA];rintro⟨j,f⟩;rcases d.1 j with c|c
     .subst c;exact e ⟨f,by rw[k];rfl⟩
     .exact b ⟨c,f⟩
theorem kZ(W:dC):∀(bs:List NL)(l:List Q_),(∀x∈l,∀y∈l,x.name=y.name->x=y)->∀x∈bT W l bs,∀y∈bT W l bs,x.name=y.name->x=y
 |[],_,h=>h
 |a :: bs,l,h=>by
  show∀x∈bT W (if (W a).isSome=true/\(Qq l a).isNone=true then l++[Q_.fresh a] else l) bs,∀y∈bT W (if (W a).isSome=true/\(Qq l a).isNone=true then l++[Q_.fresh a] else l) bs,_;refine kZ W bs _ ?_;by_cases d:(W a).isSome=true/\(Qq l a).isNone=true
  .rw[Nz d];have f:∀x∈l,x.name≠a:=λx b e=>by
    have:=(qx h).2 ⟨b,e⟩;rw[this] at d;simp at d
   intro x b y c e;rcases Mv.1 b with b|b<;>rcases Mv.1 c with c|c
   .exact h x b y c e
   .rw[Mt] at c;subst c;exact NB e (f x b)
   .rw[Mt] at b;subst b;exact NB e.symm (f y c)
   .rw[Mt] at b c;rw[b,c]
  .rw[NA d];exact h
def doL(W:dC)(l:List Q_)(r:Q_):List Q_:=(bT W (dh l (Xx W (Qq l) r).1) (Xx W (Qq l) r).2).foldl dh []
variable {W:dC}{l:List Q_}{r:Q_}
theorem AU(h:dB l):dB (doL W l r):=(jY _ [] List.Pairwise.nil (kZ W _ _ (rY (pJ h)))).1
theorem qy{n:NL}(h:dB l)(a:Qq l n=some r):Qq (doL W l r)=doX W (Qq l) n:=by
 funext m
 have c:=(aZ a).2;have d:(Xx W (Qq l) r).1.name=n:=by rw[dx];exact c
 unfold doL;rw[(jY _ [] List.Pairwise.nil (kZ W _ _ (rY (pJ h)))).2 m,mZ,wG h,dY a,d];by_cases e:m=n
 .rw[Nz e,Nz e]
 .rw[NA e,NA e];cases f:Qq l m with
  |some x=>rfl
  |none=>
   simp only;by_cases b:eO (Xx W (Qq l) r).2 m=true/\(W m).isSome=true
   .rw[Nz b]
   .rw[NA b]
    rfl
structure dW (Kq:List Qz)(l:List Q_):Prop where
 asc:dB l
 good:∀r∈l,r.Good Kq
variable {Kq:List Qz}
theorem dW.env(h:dW Kq l):dz Kq (Qq l):=λ_n r a=>⟨(aZ a).2,h.good r (aZ a).1⟩
theorem gP(c:bH (Kk Kq)){a:NL}(h:(Kk Kq a).isSome=true):(Q_.fresh a).Good Kq:=by
 let⟨A,b⟩:=MK.1 h;have e:=(c a A b).1.2.1.1;exact⟨⟨A,b,Int.le_refl _,by show (0:Int)<A.steps.length;omega⟩,Int.le_refl _,by show (0:Int)<=20;omega,by show ((([]:List NL).length:Nat):Int)<=5*0;simp,λt d=>(by cases d),by show (⟨#[]⟩:NL).size<=200;decide,λ_ _ _ h=>NB rfl h⟩
theorem CB(c:bH (Kk Kq))(h:dW Kq l)(d:r∈l)(i:aS (Kk Kq) (Qq l) r):dW Kq (doL (Kk Kq) l r):=by
 refine⟨AU h.asc,λx j=>?_⟩;have e:=bJ h.asc d;have a:=bJ (AU (W:=Kk Kq) (r:=r) h.asc) j;rw[qy h.asc e,dY e] at a;by_cases f:x.name=r.name
 .rw[Nz f] at a;cases a;exact dU c h.env (h.good r d) i
 .rw[NA f] at a;cases b:Qq l x.name with
  |some y=>
   rw[b] at a;cases a;exact h.good x (aZ b).1
  |none=>
   rw[b] at a;simp only at a
   split at a
   .rename_i hc2
    have k:=Nl a;rw[<-k];exact gP c hc2.2
   .cases a
inductive dA (W:dC)(σ:Env):List Q_->List NL->Prop
 |nil:dA W σ [] []
 |yes {l:List Q_} {ns:List NL} {r:Q_} (h:dA W σ l ns) (hr:aS W σ r):dA W σ (l++[r]) (ns++[r.name])
 |no {l:List Q_} {ns:List NL} {r:Q_} (h:dA W σ l ns) (hr:¬aS W σ r):dA W σ (l++[r]) ns
variable {σ:Env}{ns:List NL}
theorem dA.mem(h:dA W σ l ns)(n:NL):n∈ns↔∃r∈l,r.name=n/\aS W σ r:=by
 induction h with
 |nil=>simp
 |yes h hr ih=>
  rename_i l ns r
  rw[Mv,ih,Mt];constructor
  .rintro (⟨x,a,b⟩|rfl)
   .exact⟨x,Mv.2 (.inl a),b⟩
   .exact⟨r,Mv.2 (.inr E9),rfl,hr⟩
  .rintro⟨x,a,b,d⟩;rcases Mv.1 a with a|a
   .exact .inl ⟨x,a,b,d⟩
   .rw[Mt] at a;subst a;exact .inr b.symm
 |no h hr ih=>
  rename_i l ns r
  rw[ih];constructor
  .rintro⟨x,a,b⟩;exact⟨x,Mv.2 (.inl a),b⟩
  .rintro⟨x,a,b,d⟩;rcases Mv.1 a with a|a
   .exact⟨x,a,b,d⟩
   .rw[Mt] at a;subst a;exact NB d hr
theorem dA.nodup(h:dA W σ l ns)(b:dB l):ns.Nodup:=by
 induction h with
 |nil=>exact List.nodup_nil
 |yes h hr ih=>
  rename_i l ns r
  have c:=MP.1 b;rw[List.nodup_append];refine⟨ih c.1,E9,?_⟩;intro a f j d;rw[Mt] at d;subst d;obtain⟨x,i,rfl,_⟩:=(h.mem a).1 f;exact dO (c.2.2 x i r E9)
 |no h hr ih=>exact ih (MP.1 b).1
theorem dA.ready(h:dA W (Qq l) l ns)(c:dB l)(n:NL):n∈ns↔bn W (Qq l) n:=by
 rw[h.mem];constructor
 .rintro⟨r,a,rfl,b⟩;exact⟨r,bJ c a,b⟩
 .rintro⟨r,a,d⟩;let⟨b,e⟩:=aZ a;exact⟨r,b,e,d⟩
theorem dA.len(h:dA W σ l ns):ns.length<=l.length:=by
 induction h with
 |nil=>exact Mj _
 |yes _ _ ih=>simp only[M_,NG];omega
 |no _ _ ih=>simp only[M_,NG];omega
theorem dA.unique{b:List NL}(h:dA W σ l ns)(g:dA W σ l b):ns=b:=by
 induction h generalizing b with
 |nil=>
  generalize e:([]:List Q_)=l at g;cases g with
  |nil=>rfl
  |yes=>simp at e
  |no=>simp at e
 |yes h hr ih=>
  rename_i l ns r
  generalize e:l++[r]=d at g;cases g with
  |nil=>simp at e
  |yes g gr=>
   rw[List.append_singleton_inj] at e;obtain⟨rfl,rfl⟩:=e;rw[ih g]
  |no g gr=>
   rw[List.append_singleton_inj] at e;obtain⟨rfl,rfl⟩:=e;exact NB hr gr
 |no h hr ih=>
  rename_i l ns r
  generalize e:l++[r]=d at g;cases g with
  |nil=>simp at e
  |yes g gr=>
   rw[List.append_singleton_inj] at e;obtain⟨rfl,rfl⟩:=e;exact NB gr hr
  |no g gr=>
   rw[List.append_singleton_inj] at e;obtain⟨rfl,rfl⟩:=e;exact ih g
def bu(Kq:List Qz)(Kj:List NL):List Q_:=(bT (Kk Kq) [] Kj).foldl dh []
theorem vX(Kq:List Qz)(Kj:List NL):dB (bu Kq Kj):=(jY _ [] List.Pairwise.nil (kZ (Kk Kq) Kj [] λ_ h=>by cases h)).1
theorem iF(Kq:List Qz)(Kj:List NL)(n:NL):Qq (bu Kq Kj) n=if eO Kj n=true/\(Kk Kq n).isSome=true then some (Q_.fresh n) else none:=by
 unfold bu;rw[(jY _ [] List.Pairwise.nil (kZ (Kk Kq) Kj [] λ_ h=>by cases h)).2 n,mZ];show (match (if eO Kj n=true/\(Kk Kq n).isSome=true then some (Q_.fresh n) else none) with|some r=>some r|none=>Qq [] n)=_
 split
 .rename_i r h;rw[h]
 .rename_i h;rw[h];rfl
theorem gX(c:bH (Kk Kq))(Kj:List NL):dW Kq (bu Kq Kj):=by
 refine⟨vX Kq Kj,λr d=>?_⟩;have a:=bJ (vX Kq Kj) d;rw[iF] at a
 split at a
 .rename_i h2
  have e:=Nl a;rw[<-e];exact gP c h2.2
 .cases a
theorem dW.wf(h:dW Kq l):WfX (Kk Kq) (Qq l):=λn r c=>by
 let⟨d,b⟩:=aZ c;have a:=h.good r d;let⟨A,e,_⟩:=a.act;exact⟨b,by rw[<-b,e];rfl,a.lo,a.hi⟩
theorem l_{n:NL}(h:(Kk Kq n).isSome=true):n∈Kq.map (·.name):=by
 let⟨A,c⟩:=MK.1 h;let⟨k,a,e,_⟩:=fJ c;rw[MM];refine⟨Kq.getD k Qz.zero,?_,e⟩;simp only[List.getD,Mq a,NC];exact Mw a
def vM(Kq:List Qz)(l:List Q_):Nat:=dD (Kq.map (·.name)) (Qq l)
theorem JP{n:NL}(h:dW Kq l)(b:Qq l n=some r)(c:aS (Kk Kq) (Qq l) r):vM Kq (doL (Kk Kq) l r)<vM Kq l:=by
 unfold vM;rw[qy h.asc b];exact (m_ h.wf ⟨r,b,c⟩ _).2 (l_ (h.wf n r b).web)
theorem zQ(h:dB l):(l.map (·.name)).Nodup:=by
 rw[List.Nodup,List.pairwise_map];exact h.imp λb=>dO b
theorem dW.len(h:dW Kq l):l.length<=Kq.length:=by
 have c:=List.Nodup.length_le_of_subset (zQ h.asc) (l₂:=Kq.map (·.name)) (λn d=>by
  obtain⟨r,e,rfl⟩:=MM.1 d;exact l_ (h.wf r.name r (bJ h.asc e)).web)
 simpa using c
theorem EB(c:ns.Nodup){i:Nat}(hi:i<ns.length)(h:∀j,i<=j->j<ns.length->bn W σ (ns.getD j ByteArray.empty)):∀j,i+1<=j->j<ns.length->bn W (doX W σ (ns.getD i ByteArray.empty)) (ns.getD j ByteArray.empty):=by
 intro j d a;refine (sW σ _ _ ?_ (h i (Mj _) hi) (h j E5 a)).1;simp only[List.getD,Mq hi,Mq a,NC];exact Mx.1 c i j hi a E5
def EN(Kq:List Qz)(Kj:List NL)(sl:List Q_):Prop:=∃k L,dW Kq L/\bf (Behind (W:=Kk Kq) bL (Qq sl)) (doX (Kk Kq)) (Qq (bu Kq Kj)) (Qq L) k/\AtEnd (Behind (W:=Kk Kq) bL (Qq sl)) (Qq L)/\L=sl
theorem Gz{Kj:List NL}{a L:List Q_}{k:Nat}(b:dW Kq L)(c:bf (Behind (W:=Kk Kq) bL (Qq a)) (doX (Kk Kq)) (Qq (bu Kq Kj)) (Qq L) k)(d:AtEnd (Behind (W:=Kk Kq) bL (Qq a)) (Qq L)):L=a↔EN Kq Kj a:=by
 constructor
 .intro h;exact⟨k,L,b,c,d,h⟩
 .rintro⟨j,l,e,f,i,rfl⟩;exact Be b.asc e.asc (bf.unique (iy _ _) c d f i)
structure gT (Kq:List Qz)(G:Env)(σ0:Env)(ns:List NL)(l0 l:List Q_)(i:Nat)(b:Bool):Prop where
 good:dW Kq l
 led:∃k,bf (Behind (W:=Kk Kq) bL G) (doX (Kk Kq)) σ0 (Qq l) k
 rest:∀j,i<=j->j<ns.length->bn (Kk Kq) (Qq l) (ns.getD j ByteArray.empty)
 no:b=false->l=l0/\∀j,j<i->¬Behind (W:=Kk Kq) bL G (Qq l0) (ns.getD j ByteArray.empty)
 yes:b=true->vM Kq l<vM Kq l0
variable {σ0:Env}{l0:List Q_}
theorem gT.start{G:Env}(b:dW Kq l0)(c:∃k,bf (Behind (W:=Kk Kq) bL G) (doX (Kk Kq)) σ0 (Qq l0) k)(d:dA (Kk Kq) (Qq l0) l0 ns):gT Kq G σ0 ns l0 l0 0 false:=⟨b,c,λj _ a=>by
  rw[<-d.ready b.asc];simp only[List.getD,Mq a,NC];exact Mw a,λ_=>⟨rfl,λj a=>aO a⟩,λh=>by cases h⟩
theorem gT.skip{G:Env}{i:Nat}{b:Bool}(h:gT Kq G σ0 ns l0 l i b)(c:¬Behind (W:=Kk Kq) bL G (Qq l) (ns.getD i ByteArray.empty)):gT Kq G σ0 ns l0 l (i+1) b:=⟨h.good,h.led,λj d e=>h.rest j E5 e,λa=>⟨(h.no a).1,λj d=>by
  by_cases f:j=i
  .subst f;rw[<-(h.no a).1];exact c
  .exact (h.no a).2 j E5⟩,h.yes⟩
theorem gT.did(k:bH (Kk Kq)){G:Env}(m:ns.Nodup){i:Nat}{b:Bool}(h:gT Kq G σ0 ns l0 l i b)(hi:i<ns.length)(c:Behind (W:=Kk Kq) bL G (Qq l) (ns.getD i ByteArray.empty))(a:Qq l (ns.getD i ByteArray.empty)=some r):gT Kq G σ0 ns l0 (doL (Kk Kq) l r) (i+1) true:=by
 let⟨n,p⟩:=h.led;let⟨⟨q,d,e⟩,_⟩:=c;have c:Behind (W:=Kk Kq) bL G (Qq l) (ns.getD i ByteArray.empty):=⟨⟨q,d,e⟩,H8⟩;rw[a] at d;cases d;have f:=qy (W:=Kk Kq) h.good.asc a;have j:=JP h.good a e;refine⟨CB k h.good (aZ a).1 e,⟨n+1,by rw[f];exact p.snoc c⟩,λs t v=>by rw[f];exact EB m hi h.rest s t v,λw=>(by cases w),λ_=>?_⟩;cases b with
 |true=>have:=h.yes rfl;omega
 |false=>rw[(h.no rfl).1] at j⊢;exact j
theorem gT.JG{G:Env}(d:dW Kq l0)(e:dA (Kk Kq) (Qq l0) l0 ns)(h:gT Kq G σ0 ns l0 l ns.length false):l=l0/\AtEnd (Behind (W:=Kk Kq) bL G) (Qq l):=by
 let⟨b,f⟩:=h.no rfl;refine⟨b,λn a=>?_⟩;rw[b] at a;have i:=(e.ready d.asc n).2 a.1;let⟨j,c,k⟩:=MB i;have:=f j c;simp only[List.getD,Mq c,NC,k] at this;exact this a
theorem Tryz.fA :(prog.info? 9).map (λi=>(i.zero,i.size,i.bytes))=some (some (.string ByteArray.empty),1,16):=F4
variable {l:List NL}{v:NP}{w:NN}
theorem vw{base:Nat}{t:TypeId}{n:Nat}(h:w.ownsRow base t 1 v n (l.map Value.string)):∃a cap,v=.slice a l.length cap/\l.length<=cap/\Strs w a l:=by
 have c:n=l.length:=by have:=h.1;simp at this;omega
 subst c;rcases h.2 with⟨rfl,d⟩|⟨g,cap,j,rfl,k,e,f,_,_,_⟩
 .exact⟨none,0,by rw[d],E5,λi b=>E5⟩
 .refine⟨_,cap,rfl,f,λi b=>⟨g,0,rfl,aM e,?_⟩⟩;have:=h.cells (g:=g) rfl i (.string (l.getD i ByteArray.empty)) (by simp[List.getD,b]);rw[Nf] at this;exact this
theorem zC{l:List Q_}{i:Nat}(h:i<l.length):l.take (i+1)=l.take i++[l.getD i Q_.zero]:=by
 rw[Ms h];simp[List.getD,h]
def Ga(n0:Nat)(Kq:List Qz)(l:List Q_)(w':NN)(e:Ending):Prop:=∃(da:NM)(c:Nat)(ns:List NL),e=.returned (.slice da ns.length c)/\dA (Kk Kq) (Qq l) l ns/\w'.ownsRow n0 9 1 (.slice da ns.length c) ns.length (ns.map Value.string)
theorem uw(w:NN)(a:NM)(cap:Nat)(Kq:List Qz)(p:NM)(q s:Nat)(d:NM)(dc:Nat)(l:List Q_)(a6:Kq.length<=1048576)(a7:l.length<=1048576)(a8:jl Kq)(a9:∀r∈l,r.over=false->r.Zq≠0->II Kq r)(hN:bQ w a Kq)(O:bN w d l):Calls prog 56 #[.agg #[.slice a Kq.length cap],.agg #[.slice p q s,.slice d l.length dc]] w λe w'=>Ga w.heap.size Kq l w' e/\K_ w w':=by
 let⟨c,t⟩:=aj ((w.alloc (.cells #[.slice a Kq.length cap] 25)).alloc (.cells #[.slice p q s,.slice d l.length dc] 43));have P:K_ w c:=by rw[t];exact (ah _ _).alloc _
 have b0:c.heap.size=w.heap.size+2:=by rw[t];simp
 have b1:c.cell? ⟨w.heap.size,0,none⟩=some (.slice a Kq.length cap):=by rw[t,K_.cell (w:=w.alloc (.cells #[.slice a Kq.length cap] 25)) (ah _ _) E9];exact X_ w _ _ 0 _ rfl
 have s0:c.cell? ⟨w.heap.size+1,0,none⟩=some (.slice p q s):=by have:=X_ (w.alloc (.cells #[.slice a Kq.length cap] 25)) #[.slice p q s,.slice d l.length dc] 43 0 _ rfl;rw[MZ] at this;rw[t];exact this
 have s1:c.cell? ⟨w.heap.size+1,1,none⟩=some (.slice d l.length dc):=by have:=X_ (w.alloc (.cells #[.slice a Kq.length cap] 25)) #[.slice p q s,.slice d l.length dc] 43 1 _ rfl;rw[MZ] at this;rw[t];exact this
 have Q:w.heap.size<c.heap.size:=E5;have F:w.heap.size+1<c.heap.size:=E5;have R:K_ c (c.alloc (.cells #[] 9)):=ah _ _;have S:Hid ((c.alloc (.cells #[] 9)).ownsRow c.heap.size 9 1 (.b c.heap.size 0 0) 0 (([]:List NL).map Value.string)):=MQ c #[] 0 (Mj _) (Ml _) rfl;have z:=Kz P;clear P b0;go_enter func56,ntmps56
 go_upto_region 1 with fail
 rw[<-t];clear t;go_wp2
 go_loopg [5,6] l.length (λgg x5 x6 wr=>∃(i:Nat)(f:List NL),x6=.a (i:Int)/\i+gg=l.length/\f.length<=i/\Hid (dA (Kk Kq) (Qq l) (l.take i) f)/\K_ c wr/\Hid (wr.ownsRow c.heap.size 9 1 x5 f.length (f.map Value.string)))
 case atStart=>exact⟨0,[],rfl,E5,Mj _,Kz .nil,R,S⟩
 case round=>
  clear S R;obtain⟨i,f,rfl,hi,c3,G,k,A⟩:=hrel;obtain⟨T,U,rfl⟩:=aF A.o;have V:=(k.cell Q).trans b1;have W:=(k.cell F).trans s0;have X:=(k.cell F).trans s1;have y0:=Mk Q k.size;have H:=Mk F k.size;by_cases b2:(i:Int)<(l.length:Int)
  .have B:i<l.length:=E5;obtain⟨b,o,Y,Z,rfl,n,m,hT,hx⟩:=(O.kept (z.o.trans k)) i B;let⟨r,C⟩:=aj (l.getD i Q_.zero);rw[<-C] at m hT;have b3:r∈l:=by rw[C];simp[List.getD,B]
   have I:=m 0 _ rfl;have t1:=m 1 _ rfl;have t2:=m 2 _ rfl;have t3:=m 3 _ rfl;have t4:=m 4 _ rfl;have t5:=m 5 _ rfl;have t6:=m 6 _ rfl;rw[Ng] at I;have a0:=Kz C;clear m C;have a1:Hid (∀w',K_ wr w'->M4 w' w.heap.size 0 (.slice a Kq.length cap)/\M4 w' (w.heap.size+1) 0 (.slice p q s)/\M4 w' (w.heap.size+1) 1 (.slice (some ⟨b,o,none⟩) l.length dc)/\M4 w' b (o+i*7) (.string r.name)/\M4 w' b (o+i*7+1) (.bool r.over)/\M4 w' b (o+i*7+2) (.bool r.fail)/\M4 w' b (o+i*7+3) (.string r.text)/\M4 w' b (o+i*7+4) (.a r.at')/\M4 w' b (o+i*7+5) (.a r.Zq)/\M4 w' b (o+i*7+6) (.slice Y r.texts.length Z)):=λw' K=>⟨(K.cell y0).trans V,(K.cell H).trans W,(K.cell H).trans X,(K.cell n).trans I,(K.cell n).trans t1,(K.cell n).trans t2,(K.cell n).trans t3,(K.cell n).trans t4,(K.cell n).trans t5,(K.cell n).trans t6⟩
   go_upto_region 5 with fail
   refine bF 7 a1.o λwd J y=>?_
   refine ak 0 y ?_;refine ae 4 y ?_;refine ae 5 y ?_;refine ae 6 y ?_;refine aG 7 λK D=>?_;go_simp
   go_at_call 113
   refine (zV wd a cap Kq p q s (some ⟨b,o,none⟩) dc l r Y Z a6 a7 a8 (a9 r b3) (hN.kept (z.o.trans (k.trans J))) (O.kept (z.o.trans (k.trans J)))).mono ?_;rintro e v ⟨L,k3⟩;have x:=J.trans k3;clear k3;rcases L.cases with⟨rfl,a2⟩|⟨rfl,a3⟩
   .dsimp only;refine af D (λh=>absurd rfl h) ?_;clear D K y;refine aC ?_;have HY:=Kz a2;clear a2 L I t1 t2 t3 t4 t5 t6 V W X;let⟨u0,u1,u2,v0,_⟩:=a1.o _ x;have c4:=Nat.lt_of_lt_of_le n x.size;have c5:=Nat.lt_of_lt_of_le H x.size;have M:K_ v (v.alloc (.cells #[.string r.name] 9)):=ah _ _;have a4:=Kz (au A.o (x.trans M));have KK:=Kz (k.trans (x.trans M));have b4:=KK.out.size;have b5:Hid (∀j u,([.string r.name]:List NP)[j]? =some u->(v.alloc (.cells #[.string r.name] 9)).cell? ((⟨v.heap.size,0,none⟩:Addr).add j)=some u):=λj u E=>by rw[Addr.add_mid];exact X_ v #[.string r.name] 9 j u E
    have b6:Hid (∀u∈([.string r.name]:List NP),u.oneCell'=true):=λu E=>by simp only[Nh,Ni,or_false] at E;subst E;rfl
    have c6:f.length<=1048576:=E5;have c7:(i:Int)<(l.length:Int):=b2;let⟨ic,b7,b8,b9,c0⟩:=aW Tryz.fA;clear M;go_wp2_with (at_builtin;refine wpList_append_own _ rfl (.tmp 23) (.tmp 30) 26 rfl c.heap.size 9 ic _ 1 16 underlying26 b7 b8 b9 c0 rfl E8 (.slice T f.length U) f.length (f.map Value.string) rfl a4.o ⟨v.heap.size,0,none⟩ 1 1 [.string r.name] rfl rfl b5.o b6.o F5 E5 b4 ?_;intro v' w6 N a5 _;have KP:=aK KK.out (Mj _) a4.o a5;have HP:=Kz N;obtain⟨c8,c9,rfl⟩:=aF N;clear N a5)
    go_roundg (gk-1)
    case measure=>omega
    case rel=>exact⟨i+1,f++[r.name],F3,E5,by rw[M_];show f.length+1<=i+1;omega,Kz (by rw[zC B,<-a0.o];exact G.o.yes HY.o),KP,Kz (by rw[ND,M_];exact HP.o)⟩
   .dsimp only;refine af D (λh=>absurd rfl h) ?_;clear D K y;refine aC ?_;have c1:=Kz a3;clear a3 L;go_wp2
    go_roundg (gk-1)
    case measure=>omega
    case rel=>exact⟨i+1,f,F3,E5,E5,Kz (by rw[zC B,<-a0.o];exact G.o.no c1.o),k.trans x,Kz (au A.o x)⟩
  .have c2:i=l.length:=E5;have HT:=Kz (dN (base':=w.heap.size) A.o z.o.size);go_wp2
   go_ret
   refine⟨⟨T,U,f,rfl,?_,HT.o⟩,z.o.trans k⟩;have h:=G.o;rw[c2,MS] at h;exact h
theorem ma(l:List Xz)(x:Xz):aL (l++[x])=aL l++if x.fail=true then [] else [x.text]:=by
 unfold aL;rw[List.filter_append,ND];cases a:x.fail<;>simp[a]
def Ii(xs:List Xz)(w':NN)(e:Ending):Prop:=∃(g c:Nat),e=.returned (.b g (aL xs).length c)/\Strs w' (some ⟨g,0,none⟩) (aL xs)
theorem wY(w:NN)(d:NM)(dc:Nat)(xs:List Xz)(a0:xs.length<=1000)(G:fD w d xs):Calls prog 163 #[.slice d xs.length dc] w λe w'=>Ii xs w' e/\K_ w w':=by
 have v:K_ w (w.alloc (.cells #[] 9)):=ah _ _;have y:Hid ((w.alloc (.cells #[] 9)).ownsRow w.heap.size 9 1 (.b w.heap.size 0 0) 0 (([]:List NL).map Value.string)):=MQ w #[] 0 (Mj _) (Ml _) rfl;go_enter func163,ntmps163
 go_wp2
 go_loopg [3,4] xs.length (λH I J wr=>∃(i:Nat)(g a:Nat),I=.b g (aL (xs.take i)).length a/\J=.a (i:Int)/\i+H=xs.length/\(aL (xs.take i)).length<=i/\K_ w wr/\Hid (wr.ownsRow w.heap.size 9 1 (.b g (aL (xs.take i)).length a) (aL (xs.take i)).length ((aL (xs.take i)).map Value.string)))
 case atStart=>exact⟨0,w.heap.size,0,rfl,rfl,E5,Mj _,v,y⟩
 case round=>
  clear y v;obtain⟨i,g,a,rfl,rfl,hi,K,h,f⟩:=hrel;by_cases a1:(i:Int)<(xs.length:Int)
  .have p:i<xs.length:=E5;obtain⟨b,o,rfl,hb,j⟩:=(G.kept h) i p;let⟨x,q⟩:=aj (xs.getD i Xz.zero);rw[<-q] at j;have r:=j 0 _ rfl;have t1:=j 1 _ rfl;rw[Ng] at r;have k:Hid (xs.take (i+1)=xs.take i++[x]):=by show _=_;rw[Ms p,q];simp[List.getD,p]
   let⟨c,s⟩:=aj (aL (xs.take i));rw[<-s] at K f⊢;have z:=Kz s;clear j q s;cases l:x.fail
   .rw[l] at r;have t:K_ wr (wr.alloc (.cells #[.string x.text] 9)):=ah _ _;have A:=Kz (au f.o t);have B:=Kz (h.trans t);have L:=B.out.size;have M:Hid (∀m u,([.string x.text]:List NP)[m]? =some u->(wr.alloc (.cells #[.string x.text] 9)).cell? ((⟨wr.heap.size,0,none⟩:Addr).add m)=some u):=λm u n=>by rw[Nf];exact X_ wr #[.string x.text] 9 m u n
    have N:Hid (∀u∈([.string x.text]:List NP),u.oneCell'=true):=λu n=>by simp only[Nh,Ni,or_false] at n;subst n;rfl
    let⟨O,P,Q,R,S⟩:=aW Tryz.fA;clear t;go_wp2_with (at_builtin;refine wpList_append_lies _ rfl (.tmp 18) (.tmp 24) 26 rfl w.heap.size 9 O _ 1 16 underlying26 P Q R S rfl E8 (.b g c.length a) c.length (c.map Value.string) rfl A.o ⟨wr.heap.size,0,none⟩ 1 1 [.string x.text] rfl rfl M.o N.o E5 F5 E5 L _ rfl ?_;intro T U w6 C D V W;have X:=aK B.out (Mj _) A.o D;have Y:=Kz C;clear C D V W)
    go_roundg (gk-1)
    case measure=>omega
    case rel=>
     have e:aL (xs.take (i+1))=c++[x.text]:=by rw[k.o,ma,<-z.o,l];rfl
     exact⟨i+1,T,U,by rw[e,M_];rfl,F3,E5,by rw[e,M_];show c.length+1<=i+1;omega,X,Kz (by rw[e,ND,M_];exact Y.o)⟩
   .rw[l] at r;go_wp2
    go_roundg (gk-1)
    case measure=>omega
    case rel=>
     have e:aL (xs.take (i+1))=c:=by rw[k.o,ma,<-z.o,l];simp
     exact⟨i+1,g,a,by rw[e],F3,E5,by rw[e];omega,h,Kz (by rw[e];exact f.o)⟩
  .have Z:i=xs.length:=E5;have e:aL (xs.take i)=aL xs:=by rw[Z,MS]
   rw[e] at f⊢;let⟨d2,c2,E,a2,F⟩:=vw f.o;simp only[Nb,true_and] at E;obtain⟨rfl,rfl⟩:=E;have k:=Kz F;clear F e;go_wp2
   go_ret
   exact⟨⟨g,a,rfl,k.o⟩,h⟩
theorem Tryz.fG :(prog.info? 48).map (·.size)=some 7:=F4
theorem nu{b o n:Nat}{cs:List NP}(h:w.rangeAt b 0 cs)(d:Row w b n)(f:o<n)(v:NP):(w.setCell ⟨b,o,none⟩ v).rangeAt b 0 (cs.set o v):=by
 intro j u a;rw[MR];rw[List.getElem?_set] at a;by_cases e:o=j
 .subst e;rw[Nz rfl] at a;by_cases c:o<cs.length
  .rw[Nz c] at a;cases a;exact aR d f _
  .rw[NA c] at a;cases a
 .rw[NA e] at a;rw[Xk e];have:=h j u a;rw[MR] at this;exact this
structure gV (w:NN)(b:Nat)(r:Q_)(xa:NM)(xc:Nat):Prop where
 row:ay w b 48 7
 rng:w.rangeAt b 0 (r.cells xa xc)
variable {xc:Nat}{xa:NM}{r:Q_}
theorem gV.all{b:Nat}(h:gV w b r xa xc):w.cell? ⟨b,0,none⟩=some (.string r.name)/\w.cell? ⟨b,1,none⟩=some (.bool r.over)/\w.cell? ⟨b,2,none⟩=some (.bool r.fail)/\w.cell? ⟨b,3,none⟩=some (.string r.text)/\w.cell? ⟨b,4,none⟩=some (.a r.at')/\w.cell? ⟨b,5,none⟩=some (.a r.Zq)/\w.cell? ⟨b,6,none⟩=some (.slice xa r.texts.length xc):=by
 have a:∀j v,(r.cells xa xc)[j]? =some v->M4 w b j v:=λj v f=>by have:=h.rng j v f;rw[MR] at this;exact this
 exact⟨a 0 _ rfl,a 1 _ rfl,a 2 _ rfl,a 3 _ rfl,a 4 _ rfl,a 5 _ rfl,a 6 _ rfl⟩
theorem gV.kept{w':NN}{b:Nat}(h:gV w b r xa xc)(k:K_ w w'):gV w' b r xa xc:=⟨h.row.kept k,k.range h.row.lt h.rng⟩
theorem gV.put{b:Nat}{r':Q_}{xa':NM}{xc' o:Nat}(h:gV w b r xa xc)(c:o<7)(e:r'.cells xa' xc'= (r.cells xa xc).set o v):gV (w.setCell ⟨b,o,none⟩ v) b r' xa' xc':=⟨h.row.set _,by rw[e];exact nu h.rng h.row.row c v⟩
def eY(n0:Nat)(w:NN)(c:Nat)(a:NM)(l:List NL):Prop:=∀i,i<l.length->∃b o,a=some ⟨b,o,none⟩/\b<w.heap.size/\(b<n0\/c+2<=b)/\w.cell? ⟨b,o+i,none⟩=some (.string (l.getD i ByteArray.empty))
variable {c n0:Nat}{a:NM}
theorem eY.strs(h:eY n0 w c a l):Strs w a l:=λi d=>by
 let⟨b,o,e,f,_,j⟩:=h i d;exact⟨b,o,e,f,j⟩
theorem eY.kept{w':NN}(h:eY n0 w c a l)(k:K_ w w'):eY n0 w' c a l:=λi d=>by
 let⟨f,o,e,b,j,m⟩:=h i d;exact⟨f,o,e,Mk b k.size,j,(k.cell b).trans m⟩
theorem eY.set{p:Nat}(m:n0<=c)(h:eY n0 w c a l)(v:NP):eY n0 (w.setCell ⟨c,p,none⟩ v) c a l:=λi d=>by
 let⟨b,o,e,f,j,k⟩:=h i d;exact⟨b,o,e,by rw[size_setCell];exact f,j,by rw[Zj E5];exact k⟩
theorem eY.set1{p:Nat}(m:n0<=c)(h:eY n0 w c a l)(v:NP):eY n0 (w.setCell ⟨c+1,p,none⟩ v) c a l:=λi d=>by
 let⟨b,o,e,f,j,k⟩:=h i d;exact⟨b,o,e,by rw[size_setCell];exact f,j,by rw[Zj E5];exact k⟩
theorem eY.sets(b:n0<=c):∀(vs:List NP)(p:Nat){w:NN},eY n0 w c a l->eY n0 (w.setCells (c+1) p vs) c a l
 |[],_,_,h=>h
 |v :: r,p,_,h=>by rw[World.setCells];exact eY.sets b r (p+1) (h.set1 b v)
theorem eY.old{w':NN}(h:Strs w a l)(k:K_ w w')(m:w.heap.size<=n0):eY n0 w' c a l:=λi d=>by
 let⟨f,o,e,b,j⟩:=h i d;exact⟨f,o,e,Mk b k.size,E5,(k.cell b).trans j⟩
theorem eY.owned{base:Nat}{t:TypeId}{n:Nat}(h:w.ownsRow base t 1 v n (l.map Value.string))(k:c+2<=base):∃a cap,v=.slice a l.length cap/\eY n0 w c a l/\(a=none->cap=0):=by
 have d:n=l.length:=by have:=h.1;simp at this;omega
 subst d;rcases h.2 with⟨rfl,e⟩|⟨g,cap,m,rfl,p,f,q,_,_,_⟩
 .exact⟨none,0,by rw[e],(λi b=>E5),λ_=>rfl⟩
 .refine⟨_,cap,rfl,(λi b=>⟨g,0,rfl,aM f,E5,?_⟩),λj=>by cases j⟩;have:=h.cells (g:=g) rfl i (.string (l.getD i ByteArray.empty)) (by simp[List.getD,b]);rw[Nf] at this;exact this
structure NSt (n0:Nat)(w wr:NN)(ab:Nat)(cost:Int)(sa:NM)(sn sc:Nat)(r:Q_)(xa:NM)(xc:Nat):Prop where
 kw:K_ w wr
 box:gV wr (w.heap.size+2) r xa xc
 res:ay wr (w.heap.size+2+1) 48 7
 a0:wr.cell? ⟨ab,0,none⟩=some (.a cost)
 a1:wr.cell? ⟨ab,1,none⟩=some (.slice sa sn sc)
 abl:w.heap.size+4<=ab
 abz:ab<wr.heap.size
 low:n0<=w.heap.size
 txt:eY n0 wr (w.heap.size+2) xa r.texts
 nil:xa=none->xc=0
section
variable {n0:Nat}{w wr w':NN}{ab:Nat}{cost:Int}{sa:NM}{sn sc:Nat}{r r':Q_}{xa xa':NM}{xc xc':Nat}
theorem NSt.kept(h:NSt n0 w wr ab cost sa sn sc r xa xc)(k:K_ wr w'):NSt n0 w w' ab cost sa sn sc r xa xc:=⟨h.kw.trans k,h.box.kept k,h.res.kept k,(k.cell h.abz).trans h.a0,(k.cell h.abz).trans h.a1,h.abl,Mk h.abz k.size,h.low,h.txt.kept k,h.nil⟩
theorem NSt.Lv(h:NSt n0 w wr ab cost sa sn sc r xa xc){o:Nat}(b:o<7)(e:r'.cells xa' xc'= (r.cells xa xc).set o v)(c:eY n0 wr (w.heap.size+2) xa' r'.texts)(d:xa'=none->xc'=0):NSt n0 w (wr.setCell ⟨w.heap.size+2,o,none⟩ v) ab cost sa sn sc r' xa' xc':=by
 have a:ab≠w.heap.size+2:=by have:=h.abl;omega
 have f:w.heap.size+2+1≠w.heap.size+2:=E5;exact⟨Below.setCell h.kw (p:=⟨w.heap.size+2,o,none⟩) (by show w.heap.size<=w.heap.size+2;omega) v,h.box.put b e,h.res.block (Below.heap_setCell _ _ _ _ f),by rw[Zj a];exact h.a0,by rw[Zj a];exact h.a1,h.abl,by rw[size_setCell];exact h.abz,h.low,c.set (by have:=h.low;omega) v,d⟩
theorem NSt.put(h:NSt n0 w wr ab cost sa sn sc r xa xc){o:Nat}(b:o<7)(e:r'.cells xa xc= (r.cells xa xc).set o v)(c:r'.texts=r.texts):NSt n0 w (wr.setCell ⟨w.heap.size+2,o,none⟩ v) ab cost sa sn sc r' xa xc:=h.Lv b e (by rw[c];exact h.txt) h.nil
end
theorem NSt.made{a b:NN}{ab:Nat}{cost:Int}{sa:NM}{sn sc:Nat}(f:K_ w a)(n:a.heap.size=w.heap.size+4)(K:K_ a b)(i:gV a (w.heap.size+2) r xa xc)(j:ay a (w.heap.size+2+1) 48 7)(k:n0<=w.heap.size)(l:eY n0 a (w.heap.size+2) xa r.texts)(m:xa=none->xc=0)(e:a.heap.size<=ab)(d:ay b ab 31 2):K_ a ((b.setCell ⟨ab,0,none⟩ (.a cost)).setCell ⟨ab,1,none⟩ (.slice sa sn sc))/\NSt n0 w ((b.setCell ⟨ab,0,none⟩ (.a cost)).setCell ⟨ab,1,none⟩ (.slice sa sn sc)) ab cost sa sn sc r xa xc:=by
 have c:K_ a ((b.setCell ⟨ab,0,none⟩ (.a cost)).setCell ⟨ab,1,none⟩ (.slice sa sn sc)):=Below.setCell (Below.setCell K (p:=⟨ab,0,none⟩) e _) (p:=⟨ab,1,none⟩) e _;refine⟨c,f.trans c,i.kept c,j.kept c,(Xk E5 _).trans (aR d.row E5 _),aR (d.set _).row E5 _,E5,?_,k,l.kept c,m⟩;rw[size_setCell,size_setCell];exact d.lt
def vY(n0 c:Nat)(W:dC)(σ:Env)(r:Q_)(w':NN)(e:Ending):Prop:=∃(xa':NM)(xc':Nat)(ka:NM)(kc:Nat),e=.returned (.tuple #[.agg ((Xx W σ r).1.cells xa' xc').toArray,.slice ka (Xx W σ r).2.length kc])/\eY n0 w' c xa' (Xx W σ r).1.texts/\(xa'=none->xc'=0)/\eY n0 w' c ka (Xx W σ r).2
theorem aP{g:Nat}(a:w.heap.size<=g):∀(vs:List NP)(o:Nat){u:NN},K_ w u->K_ w (u.setCells g o vs)
 |[],_,_,h=>h
 |v :: r,o,_,h=>by rw[World.setCells];exact aP a r (o+1) (Below.setCell h (p:=⟨g,o,none⟩) a v)
theorem NSt.ends{W:dC}{σ:Env}{wr:NN}{ab:Nat}{cost:Int}{sa:NM}{sn sc:Nat}{r':Q_}{asks:List NL}{a:NM}{c d:Nat}{e:Ending}(h:NSt n0 w wr ab cost sa sn sc r' xa xc)(b:Xx W σ r= (r',asks))(f:eY n0 wr (w.heap.size+2) a asks)(i:c=asks.length)(j:e=.returned (.tuple #[.agg (r'.cells xa xc).toArray,.slice a c d])):vY n0 (w.heap.size+2) W σ r (wr.setCells (w.heap.size+2+1) 0 (r'.cells xa xc)) e/\K_ w (wr.setCells (w.heap.size+2+1) 0 (r'.cells xa xc)):=by
 refine⟨⟨xa,xc,a,d,?_,?_,h.nil,?_⟩,aP E5 _ _ h.kw⟩
 .rw[b,j,i]
 .rw[b];exact h.txt.sets (by have:=h.low;omega) _ _
 .rw[b];exact f.sets (by have:=h.low;omega) _ _
theorem Tryz.tH :(prog.info? 48).map (λi=>(i.zero,i.size,i.bytes))=some (some (.agg #[.string ⟨#[]⟩,.bool false,.bool false,.string ⟨#[]⟩,.a 0,.a 0,M3]),7,80):=F4
def nK(w:NN)(P:Nat->Prop)(a:NM)(l:List Q_):Prop:=∀i,i<l.length->∃b o xa xc,a=some ⟨b,o,none⟩/\b<w.heap.size/\w.rangeAt b (o+i*7) ((l.getD i Q_.zero).cells xa xc)/\Strs w xa (l.getD i Q_.zero).texts/\(xa=none->xc=0)/\(∀ad:Addr,xa=some ad->P ad.block)
variable {l:List Q_}{P:Nat -> Prop}{a:NM}{w w':NN}
theorem nK.kept(h:nK w P a l)(k:K_ w w'):nK w' P a l:=by
 intro i c;let⟨d,o,e,f,j,b,m,n,p⟩:=h i c;exact⟨d,o,e,f,j,Mk b k.size,k.range b m,n.kept k,p⟩
theorem nK.runs(h:nK w P a l):bN w a l:=by
 intro i c;let⟨b,o,d,f,e,j,k,m,n,_⟩:=h i c;exact⟨b,o,d,f,e,j,k,m,n⟩
theorem bN.all(h:bN w a l):nK w (λ_=>True) a l:=by
 intro i c;let⟨b,o,d,f,e,j,k,m,n⟩:=h i c;exact⟨b,o,d,f,e,j,k,m,n,λ_ _=>trivial⟩
def bI(w:NN)(P:Nat->Prop)(xs:List NP)(l:List Q_):Prop:=xs.length=l.length*7/\∀i,i<l.length->∃xa xc,(xs.drop (i*7)).take 7= (l.getD i Q_.zero).cells xa xc/\Strs w xa (l.getD i Q_.zero).texts/\(xa=none->xc=0)/\(∀ad:Addr,xa=some ad->P ad.block)
theorem bI.nil(w:NN)(P:Nat->Prop):bI w P [] []:=⟨rfl,λi a=>by simp at a⟩
variable {xs:List NP}
theorem bI.kept(h:bI w P xs l)(k:K_ w w'):bI w' P xs l:=⟨h.1,λi a=>by let⟨b,c,d,e,f⟩:=h.2 i a;exact⟨b,c,d,e.kept k,f⟩⟩
theorem bI.snoc{r:Q_}{xa:NM}{xc:Nat}(h:bI w P xs l)(e:Strs w xa r.texts)(f:xa=none->xc=0)(j:∀ad:Addr,xa=some ad->P ad.block):bI w P (xs++r.cells xa xc) (l++[r]):=by
 refine⟨by simp[h.1,Q_.cells];omega,λi c=>?_⟩;rw[M_] at c;simp only[Nc,List.length_nil] at c;by_cases d:i<l.length
 .have a:(l++[r]).getD i Q_.zero=l.getD i Q_.zero:=by simp[List.getD,Np d]
  have b:((xs++r.cells xa xc).drop (i*7)).take 7= (xs.drop (i*7)).take 7:=by
   rw[List.drop_append_of_le_length (by rw[h.1];omega),List.take_append_of_le_length (by rw[List.length_drop,h.1];omega)]
  rw[a,b];exact h.2 i d
 .obtain rfl:i=l.length:=E5;have a:(l++[r]).getD l.length Q_.zero=r:=I8;have b:((xs++r.cells xa xc).drop (l.length*7)).take 7=r.cells xa xc:=by
   rw[<-h.1,List.drop_left]
   rfl
  rw[a,b];exact⟨xa,xc,rfl,e,f,j⟩
variable {base n:Nat}
theorem bI.runs{v:NP}(b:w'.ownsRow base 48 7 v n xs)(h:bI w P xs l)(k:K_ w w'):n=l.length/\∃a cap,v=.slice a l.length cap/\nK w' P a l:=by
 have f:n=l.length:=by have z:=b.1;have A:=h.1;omega
 subst f;refine⟨rfl,?_⟩;rcases b.2 with⟨rfl,m⟩|⟨g,cap,B,rfl,C,p,D,_,_,_⟩
 .exact⟨none,0,by rw[m],λi c=>E5⟩
 .refine⟨_,cap,rfl,λi c=>?_⟩;let⟨q,r,s,t,x⟩:=h.2 i c;refine⟨g,0,q,r,rfl,aM p,(λj u d=>?_),t.kept k,x⟩;have y:j<7:=by have:=(Mr.1 d).1;simpa[Q_.cells] using this
  have e:((xs.drop (i*7)).take 7)[j]? =some u:=by rw[s];exact d
  rw[List.getElem?_take,Nz y,List.getElem?_drop] at e;have:=b.cells (g:=g) rfl _ _ e;rw[Nf] at this;rw[MR] at this⊢;exact this
theorem FH{c p:Nat}{t:TypeId}{v u:NP}{l:List NL}(h:w.ownsRow base t 1 v n (l.map Value.string))(q:c<base):∃a cap,v=.slice a l.length cap/\Strs (w.setCell ⟨c,p,none⟩ u) a l/\(a=none->cap=0)/\(∀b:Addr,a=some b->base<=b.block):=by
 have f:n=l.length:=by have:=h.1;simp at this;omega
 subst f;rcases h.2 with⟨rfl,j⟩|⟨g,cap,r,rfl,k,m,s,_,_,_⟩
 .exact⟨none,0,by rw[j],(λi d=>E5),(λ_=>rfl),λb e=>by cases e⟩
 .refine⟨_,cap,rfl,(λi d=>⟨g,0,rfl,by rw[size_setCell];exact aM m,?_⟩),(λe=>by cases e),λb e=>by cases e;exact k⟩;have:=h.cells (g:=g) rfl i (.string (l.getD i ByteArray.empty)) (by simp[List.getD,d]);rw[Nf] at this;rw[Zj E5];exact this
def KJ(w2 wr:NN)(P:Nat->Prop)(out:NP)(p:List Q_×Bool):Prop:=∃xs,wr.ownsRow w2.heap.size 48 7 out p.1.length xs/\bI w2 P xs p.1/\K_ w2 wr
def Iy(w w':NN)(P:Nat->Prop)(v:NP)(l:List Q_):Prop:=∃w2 xs,K_ w w2/\K_ w2 w'/\w'.ownsRow w2.heap.size 48 7 v l.length xs/\bI w2 P xs l
structure KnX (wz wr:NN)(kb:Nat)(a:NM)(n cap:Nat)(R:List Q_)(d:NM)(dc:Nat)(xs:List NP):Prop where
 kw:K_ wz wr
 known:gL wr kb a n cap d R.length dc
 own:wr.ownsRow wz.heap.size 48 7 (.slice d R.length dc) R.length xs
 pack:bI wz (λ_=>True) xs R
variable {R:List Q_}{cap dc kb:Nat}{d:NM}{wr wz:NN}
theorem KnX.kept(h:KnX wz wr kb a n cap R d dc xs)(k:K_ wr w'):KnX wz w' kb a n cap R d dc xs:=⟨h.kw.trans k,h.known.kept k,au h.own k,h.pack⟩
theorem KnX.runs(h:KnX wz wr kb a n cap R d dc xs):bN wr d R:=by
 let⟨_,e,f,b,c⟩:=bI.runs h.own h.pack h.kw;simp only[Nb,true_and] at b;rw[b.1];exact c.runs
theorem own_ne{v:NP}(b:ay w kb 106 2)(h:w.ownsRow base 48 7 v n xs):some kb≠v.ownBlock:=by
 rcases h.2 with⟨rfl,_⟩|⟨g,d,f,rfl,_,c,_⟩
 .intro e;cases e
 .intro e;simp only[Value.ownBlock,Na] at e;subst e;let⟨i,a,_⟩:=b;rw[c] at a;simp only[Na,Obj.cells.injEq] at a;exact NB a.2.1 E8
theorem KnX.block{W e:NN}(h:KnX wz wr kb a n cap R d dc xs)(c:K_ wr W)(f:W.grownBy e (Value.slice d R.length dc).ownBlock):e.heap[kb]? =W.heap[kb]? :=f.block kb (h.known.kept c).row.lt (own_ne (h.known.kept c).row (au h.own c))
theorem KnX.grown{W c:NN}(h:KnX wz wr kb a n cap R d dc xs)(b:K_ wr W)(i:W.grownBy c (Value.slice d R.length dc).ownBlock):K_ wz c/\gL c kb a n cap d R.length dc:=by
 have e:=h.block b i;have f:=h.known.kept b;exact⟨aK (h.kw.trans b) (Mj _) (au h.own b) i,f.row.block e,(MC (w:=W) e).trans f.web,(MC (w:=W) e).trans f.runs⟩
theorem zD{size:Nat}{e:TypeId}{v:NP}(h:w.ownsRow base e size v n xs){o:Nat}(a:some kb≠v.ownBlock)(u:NP):(w.setCell ⟨kb,o,none⟩ u).ownsRow base e size v n xs:=by
 refine⟨h.1,?_⟩;rcases h.2 with b|⟨g,c,d,rfl,f,i,rest⟩
 .exact .inl b
 .refine .inr ⟨g,c,d,rfl,f,?_,rest⟩;rw[Below.heap_setCell _ _ _ _ λe=>a (by simp[Value.ownBlock,e])];exact i
theorem KnX.next{W c:NN}{e:Nat}{f:NM}{y:Q_}{xa:NM}{xc:Nat}(h:KnX wz wr kb a n cap R d dc xs)(k:wz.heap.size<=kb)(l:K_ wr W)(m:W.grownBy c (Value.slice d R.length dc).ownBlock)(i:c.ownsRow wz.heap.size 48 7 (.slice f (R.length+1) e) (R.length+1) (xs++y.cells xa xc))(q:Strs wz xa y.texts)(r:xa=none->xc=0):KnX wz (c.setCell ⟨kb,1,none⟩ (.slice f (R.length+1) e)) kb a n cap (R++[y]) f e (xs++y.cells xa xc):=by
 let⟨s,b⟩:=h.grown l m;have j:(R++[y]).length=R.length+1:=E9;refine⟨Below.setCell s (p:=⟨kb,1,none⟩) k _,⟨b.row.set _,?_,?_⟩,?_,h.pack.snoc q r λ_ _=>trivial⟩
 .rw[Xk E5];exact b.web
 .rw[j];exact aR b.row.row E5 _
 .rw[j];exact zD i (own_ne b.row i) _
theorem vW(W:dC):∀(bs:List NL)(l:List Q_)(n:NL),bT W l (bs++[n])=if (W n).isSome=true/\(Qq (bT W l bs) n).isNone=true then bT W l bs++[Q_.fresh n] else bT W l bs
 |[],_l,_n=>rfl
 |_b :: bs,_l,n=>vW W bs _ n
theorem xO(W:dC)(l:List Q_){a:List NL}{k:Nat}(h:k<a.length):bT W l (a.take (k+1))=if (W (a.getD k ByteArray.empty)).isSome=true/\(Qq (bT W l (a.take k)) (a.getD k ByteArray.empty)).isNone=true then bT W l (a.take k)++[Q_.fresh (a.getD k ByteArray.empty)] else bT W l (a.take k):=by
 rw[Ms h,vW];simp[List.getD,h]
theorem mQ(W:dC):∀(bs:List NL)(l:List Q_),(bT W l bs).length<=l.length+bs.length
 |[],l=>by simp[bT]
 |b :: bs,l=>by
  have h:=mQ W bs (if (W b).isSome=true/\(Qq l b).isNone=true then l++[Q_.fresh b] else l);show (bT W (if (W b).isSome=true/\(Qq l b).isNone=true then l++[Q_.fresh b] else l) bs).length<=_
  split at h<;>rename_i hc
  .rw[Nz hc];simp at h⊢;omega
  .rw[NA hc];simp at h⊢;omega
theorem sG(w:NN)(a:NM)(cap:Nat)(l:List Qz)(b:NL)(c:l.length<=1048576)(d:bQ w a l)(h:(Kk l b).isSome=true):Calls prog 61 #[.agg #[.slice a l.length cap],.string b] w λe w'=>(∃r:Nat,e=.returned (.a (r:Int)))/\K_ w w':=by
 refine (fe w a cap l b c d).mono ?_;rintro e w' ⟨⟨r,rfl,f⟩,k⟩;rcases f with⟨i,_,rfl,_⟩|⟨_,j⟩
 .exact⟨⟨i,rfl⟩,k⟩
 .rw[j] at h;cases h
theorem Bu(w:NN)(a:NM)(cap:Nat)(l:List Qz)(b:NL)(d:l.length<=1048576)(f:bQ w a l)(h:¬(Kk l b).isSome=true):Calls prog 61 #[.agg #[.slice a l.length cap],.string b] w λe w'=>e=.returned (.a (-1))/\K_ w w':=by
 refine (fe w a cap l b d f).mono ?_;rintro e w' ⟨⟨r,rfl,i⟩,k⟩;rcases i with⟨j,_,rfl,c,_⟩|⟨rfl,c⟩
 .rw[c] at h;exact NB rfl h
 .exact⟨rfl,k⟩
theorem Cs(w:NN)(kb:Nat)(a:NM)(n cap:Nat)(d:NM)(dc:Nat)(l:List Q_)(b:NL)(c:l.length<=1048576)(f:gL w kb a n cap d l.length dc)(i:bN w d l)(h:(Qq l b).isNone=true):Calls prog 116 #[.c kb,.string b] w λe w'=>(∃r:Int,e=.returned (.a r)/\r<0)/\w'=w:=by
 refine (GY w kb a n cap d dc l b c f i).mono ?_;rintro e w' ⟨⟨r,rfl,j⟩,k⟩;rcases j with⟨p,_,rfl,m,_⟩|⟨rfl,_⟩
 .rw[m] at h;cases h
 .exact⟨⟨-1,rfl,E5⟩,k⟩
theorem Co(w:NN)(kb:Nat)(a:NM)(n cap:Nat)(d:NM)(dc:Nat)(l:List Q_)(b:NL)(c:l.length<=1048576)(f:gL w kb a n cap d l.length dc)(i:bN w d l)(h:¬(Qq l b).isNone=true):Calls prog 116 #[.c kb,.string b] w λe w'=>(∃r:Nat,e=.returned (.a (r:Int)))/\w'=w:=by
 refine (GY w kb a n cap d dc l b c f i).mono ?_;rintro e w' ⟨⟨r,rfl,j⟩,k⟩;rcases j with⟨m,_,rfl,_⟩|⟨_,p⟩
 .exact⟨⟨m,rfl⟩,k⟩
 .rw[p] at h;exact NB rfl h
variable {σ:Env}
section
variable {W:dC}
def pend(W:dC)(σ:Env)(r:Q_):List NL:=if r.over=true\/r.Zq=0 then [] else
 match W r.name with
 |none=>[]
 |some A=>(stepOf A r.at').asks.filter λa=>(bD W σ a).isNone
theorem jU :∀{l:List NL},(∃xs,Yz W σ l=some xs)↔∀a∈l,(bD W σ a).isSome=true
 |[]=>⟨λ_ _ h=>(by cases h),λ_=>⟨[],rfl⟩⟩
 |a :: l=>by
  constructor
  .rintro⟨xs,h⟩ b c;unfold Yz at h;cases e:bD W σ a with
   |none=>rw[e] at h;cases h
   |some x=>
    rw[e] at h;simp only at h;cases d:Yz W σ l with
    |none=>rw[d] at h;cases h
    |some f=>
     rcases Nh.1 c with rfl|c
     .rw[e];rfl
     .exact jU.1 ⟨f,d⟩ b c
  .intro h;let⟨f,d⟩:=jU.2 λb c=>h b (MH _ c);let⟨x,i⟩:=MK.1 (h a E9);exact⟨x :: f,by unfold Yz;rw[i,d]⟩
theorem zt{r:Q_}(n:(W r.name).isSome=true):aS W σ r↔r.over=false/\pend W σ r=[]:=by
 let⟨A,e⟩:=MK.1 n;unfold aS pend;constructor
 .rintro⟨b,a⟩;refine⟨b,?_⟩;rcases a with a|⟨p,f,m,h⟩
  .rw[Nz (.inr a)]
  .by_cases c:r.Zq=0
   .rw[Nz (.inr c)]
   .rw[NA (by rw[b];simp[c]),e];simp only;rw[e] at m;cases m;rw[List.filter_eq_nil_iff];intro d i;have:=jU.1 ⟨f,h⟩ d i;cases j:bD W σ d with
    |none=>rw[j] at this;cases this
    |some x=>simp
 .rintro⟨b,a⟩;refine⟨b,?_⟩;by_cases c:r.Zq=0
  .exact .inl c
  .right
   rw[NA (by rw[b];simp[c]),e] at a;simp only at a;rw[List.filter_eq_nil_iff] at a;let⟨f,h⟩:=(jU (l:=(stepOf A r.at').asks) (W:=W) (σ:=σ)).2 (λd i=>by
    have:=a d i;cases j:bD W σ d with
    |none=>rw[j] at this;simp at this
    |some x=>rfl)
   exact⟨A,f,e,h⟩
theorem IB{n:NL}{r:Q_}(b:σ n=some r)(_hc:r.over=false)(a:NL):bD W (doX W σ n) a=if a=n/\(W n).isSome=true then (if (Xx W σ r).1.over=true then some ⟨(Xx W σ r).1.fail,(Xx W σ r).1.text⟩ else none) else bD W σ a:=by
 unfold bD;cases c:W a with
 |none=>
  have:¬(a=n/\(W n).isSome=true):=by rintro⟨rfl,h⟩;rw[c] at h;cases h
  rw[NA this]
 |some A=>
  simp only;by_cases e:a=n
  .subst e;rw[Nz ⟨rfl,by rw[c];rfl⟩,je b]
  .rw[NA (by rintro⟨h,_⟩;exact e h),dY b,NA e];cases d:σ a with
   |some x=>rfl
   |none=>
    simp only
    split
    .rename_i x hx
     split at hx
     .cases hx;rfl
     .cases hx
    .rfl
theorem EO{n:NL}{r x:Q_}(d:σ n=some r)(f:r.over=false)(h:(W n).isSome=true):pend W (doX W σ n) x=if (Xx W σ r).1.over=true then (pend W σ x).filter (λa=>!decide (a=n)) else pend W σ x:=by
 unfold pend;by_cases b:x.over=true\/x.Zq=0
 .rw[Nz b,Nz b]
  split<;>rfl
 .rw[NA b,NA b];cases l:W x.name with
  |none=>simp only;split<;>rfl
  |some A=>
   simp only;have j:bD W σ n=none:=by
    unfold bD;let⟨B,k⟩:=MK.1 h;rw[k,d];simp[f]
   by_cases c:(Xx W σ r).1.over=true
   .rw[Nz c,List.filter_filter]
    congr 1
    funext a
    rw[IB d f];by_cases e:a=n
    .rw[Nz ⟨e,h⟩,Nz c];simp[e]
    .rw[NA (by rintro⟨i,_⟩;exact e i)];simp[e]
   .rw[NA c]
    congr 1
    funext a
    rw[IB d f];by_cases e:a=n
    .rw[Nz ⟨e,h⟩,NA c,e,j]
    .rw[NA (by rintro⟨i,_⟩;exact e i)]
theorem nI(σ:Env)(n:NL):pend W σ (Q_.fresh n)=[]:=by
 unfold pend;rw[Nz (.inr rfl)]
theorem Dn{r:Q_}(f:bH W){A:fO}(b:W r.name=some A)(m:0<=r.at')(n:r.at' < A.steps.length):(pend W σ r).Nodup:=by
 unfold pend
 split
 .exact List.nodup_nil
 .rw[b];simp only;refine List.Pairwise.filter _ ?_;have a:=(f _ _ b).1.2.2 r.at'.toNat E5;have e:A.steps.getD r.at'.toNat Xq.zero=stepOf A r.at':=rfl;rw[e] at a;cases c:(stepOf A r.at').fin with
  |true=>
   have:=(a.1 c).1;rw[MF.1 this];exact List.Pairwise.nil
  |false=>
   have h:=(a.2 c).1.2.2.2.1;rw[Mx];intro i j k d l e;have:=(h j d).2 i l;simp only[List.getD,Mq k,Mq d,NC] at this;exact this e
end
variable {σ:Env}
section
variable {W:dC}
def aJ(W:dC)(σ:Env)(n:NL):Nat->Q_×List NL
 |0=>(Q_.fresh n,[])
 |k+1=>((Xx W σ (aJ W σ n k).1).1,(aJ W σ n k).2++(Xx W σ (aJ W σ n k).1).2)
def jX(W:dC)(σ:Env)(r:Q_)(L:List NL):Prop:=∃k,aJ W σ r.name k= (r,L)/\∀j,j<k->aS W σ (aJ W σ r.name j).1
theorem lL{n:NL}:∀k,(aJ W σ n k).1.name=n
 |0=>rfl
 |k+1=>by unfold aJ;rw[dx];exact lL k
theorem jX.start(n:NL):jX W σ (Q_.fresh n) []:=⟨0,rfl,λ_ h=>aO h⟩
theorem jX.unit{r:Q_}{L:List NL}(h:jX W σ r L)(b:aS W σ r):jX W σ (Xx W σ r).1 (L++(Xx W σ r).2):=by
 let⟨k,a,c⟩:=h;refine⟨k+1,?_,λj d=>?_⟩
 .rw[dx];unfold aJ;rw[a]
 .rw[dx];rcases Nat.lt_or_ge j k with g|g
  .exact c j g
  .have:j=k:=E5;subst this;rw[a];exact b
theorem jE{n m:NL}(a:bn W σ m):∀{k:Nat},(∀j,j<k->aS W σ (aJ W σ n j).1)->aJ W (doX W σ m) n k=aJ W σ n k
 |0,_=>rfl
 |k+1,h=>by
  have b:=jE (k:=k) a λj c=>h j E5;have:=oV a (h k E5);unfold aJ;rw[b,this]
theorem jX.mono{m:NL}{r:Q_}{L:List NL}(h:jX W σ r L)(a:bn W σ m):jX W (doX W σ m) r L:=by
 let⟨k,c,b⟩:=h;refine⟨k,by rw[jE a b];exact c,λj d=>?_⟩;rw[jE a λi e=>b i E5];exact (b j d).mono a
theorem fH{n:NL}(a:(W n).isSome=true):∀{k:Nat},(∀j,j<k->aS W σ (aJ W σ n j).1)->(aJ W σ n k).1.over=false->(aJ W σ n k).1.Zq=k
 |0,_,_=>rfl
 |k+1,h,ho=>by
  have b:=h k E5;have c:=fH a (k:=k) (λj d=>h j E5) b.1;rcases fI b (by rw[lL];exact a) with g|⟨_,_,g⟩
  .show (Xx W σ (aJ W σ n k).1).1.Zq=_;rw[g,c];omega
  .exact NB (g.symm.trans ho) E9
end
