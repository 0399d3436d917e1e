import Derived.Test.YtjbipapbckajnaaGreatDoorKFFmt
import Derived.Deep.AppendLies
import Derived.Test.YtjbipapbckajnaaGreatDoorKWGo5
import Derived.Deep.RegionLaw
set_option maxRecDepth 100000
set_option maxHeartbeats 25600000
namespace Go.Proofs.YtjbipapbckajnaaGreatDoor
open Go.RowKit Go.Proofs.Tryz
theorem aU{P:Program}{e:TypeId}{z:NJ}{size c:Nat}(h:(P.info? e).map (λi=>(i.zero,i.size,i.bytes))=some (some z,size,c)):∃i,P.info? e=some i/\i.zero=some z/\i.size=size/\i.bytes=c:=by
 obtain⟨i,f,a⟩:=Option.map_eq_some_iff.1 h;simp only[Prod.mk.injEq] at a;exact⟨i,f,a.1,a.2.1,a.2.2⟩
theorem nX{W:dA}{σ:Env}{a:NG}{x:Xz}:∀{l:List NG} {xs:List Xz},Yz W σ l=some xs->bH W σ a=some x->Yz W σ (l++ [a])=some (xs++ [x])
 | [],xs,h,hx=>by
  simp only[Yz,MV] at h;subst h;simp[Yz,hx]
 | b :: l,xs,h,hx=>by
  unfold Yz at h;cases c:bH W σ b with
  | none=>simp[c] at h
  | some y=>
   cases d:Yz W σ l with
   | none=>simp[c,d] at h
   | some ys=>
    simp only[c,d,MV] at h;subst h;show Yz W σ (b :: (l++ [a]))=_;unfold Yz;rw[c,nX d hx]
    rfl
theorem oo{W:dA}{σ:Env}{a:NG}(d:bH W σ a=none):∀{l:List NG},a∈l->Yz W σ l=none
 | b :: l,h=>by
  unfold Yz;rcases Na.1 h with rfl|h
  .rw[d]
  .cases e:bH W σ b with
   | none=>rfl
   | some y=>simp only[oo d h]
def IQ(Kq:List Qz)(l:List Q_)(asks:List NG)(w':NI)(e:Ending):Prop:=
 ∃(d:NH) (n c:Nat) (ok:Bool),e= .returned (.tuple #[.slice d n c,.bool ok])/\(ok=true->∃xs,Yz (Kk Kq) (Qq l) asks=some xs/\n=xs.length/\fw w' d xs)/\(ok=false->Yz (Kk Kq) (Qq l) asks=none)
theorem oC(w:NI)(D:Nat)(a:NH)(O:Nat)(n:List Qz)(d:NH)(P:Nat)(l:List Q_)(s:Xq)(p E:NH)(y F:Nat)(a5:n.length<=1048576)(a6:l.length<=1048576)(c3:s.asks.length<=1000)(a7:∀x∈s.asks,x.size<=1000)
  (Q:gQ w D a n.length O d l.length P) (R:bT w a n) (S:cB w d l) (T:Strs w p s.asks):
  Calls prog 122 #[.c D,.agg #[.slice p s.asks.length y,.a s.on,.slice E s.cases.length F,.a s.els,.a s.fall,.bool s.fin,.bool s.bad,.string s.give]] w λe w'=>IQ n l s.asks w' e/\K_ w w':=by
 have m:K_ w (w.alloc (.cells #[.slice p s.asks.length y,.a s.on,.slice E s.cases.length F,.a s.els,.a s.fall,.bool s.fin,.bool s.bad,.string s.give] 176)):=ah _ _;obtain⟨b,q⟩:=aj (w.alloc (.cells #[.slice p s.asks.length y,.a s.on,.slice E s.cases.length F,.a s.els,.a s.fall,.bool s.fin,.bool s.bad,.string s.give] 176));have q0:b.cell? ⟨w.heap.size,0,none⟩=some (.slice p s.asks.length y):=by rw[q];exact X_ w _ _ 0 _ rfl
 have U:w.heap.size<b.heap.size:=by rw[q];simp
 rw[<-q] at m;have V:K_ b (b.alloc (.cells #[] 80)):=ah _ _;have W:Hid ((b.alloc (.cells #[] 80)).ownsRow b.heap.size 80 2 (.b b.heap.size 0 0) 0 (dC [])):=ML b #[] 0 (Me _) (Mg _) rfl;have a8:=Kz (T.kept m);have a9:=Kz (R.kept m);have b0:=Kz (S.kept m);have b1:=Kz (Q.kept m);have X:=Kz m;clear T R S Q m;go_enter func122,ntmps122
 go_upto_region 1 with fail
 rw[<-q];clear q;go_wp2
 go_loopg [6,7] s.asks.length (λgg x6 x7 wr=>∃(i:Nat) (c:List Xz),x7= .a (i:Int)/\i+gg=s.asks.length/\c.length=i/\Hid (Yz (Kk n) (Qq l) (s.asks.take i)=some c)/\K_ b wr/\Hid (wr.ownsRow b.heap.size 80 2 x6 c.length (dC c)))
 case atStart=>exact⟨0,[],rfl,E5,rfl,Kz rfl,V,W⟩
 case round=>
  clear W V;obtain⟨i,c,rfl,hi,G,Y,k,H⟩:=hrel;have Z:=Kz G;clear G;obtain⟨I,J,rfl⟩:=ay H.o;have c0:=(k.cell U).trans q0;have cz:w.heap.size<wr.heap.size:=Mf U k.size;by_cases c4:(i:Int)<(s.asks.length:Int)
  .have r:i<s.asks.length:=E5;obtain⟨sb,so,rfl,b2,a0⟩:=(a8.o.kept k) i r;obtain⟨K,z⟩:=aj (s.asks.getD i ByteArray.empty);rw[<-z] at a0;have b3:K.size<=1000:=by rw[z];exact a7 _ (by simp[List.getD,r])
   have a1:=Kz z;clear z;go_wp2_with fail
   refine (CZ wr D a O n d P l K a5 a6 b3 (b1.o.kept k) (a9.o.kept k) (b0.o.kept k)).mono ?_;rintro e j ⟨⟨f,t,ok,rfl,a2⟩,v⟩;have L:=Kz a2;clear a2 a0 b2;have M:K_ j (j.alloc (.cells #[.bool f,.string t] 80)):=ah _ _;cases ok
   .go_wp2
    go_ret2
    refine⟨⟨I,_,J,false,rfl,(λh=>(by cases h)),λ_=>oo (a:=K) (by simpa using L.o) (by rw[a1.o];simp[List.getD,r])⟩,X.o.trans (k.trans (v.trans M))⟩
   .have A:K_ j ((j.alloc (.cells #[.bool f,.string t] 80)).alloc (.cells #[.bool f,.string t] 80)):=M.alloc _;have r0:=X_ j #[.bool f,.string t] 80 0 _ rfl;have r1:=X_ j #[.bool f,.string t] 80 1 _ rfl;simp only[MM] at r0 r1;have a3:=Kz (ak H.o (v.trans A));have b4:b.heap.size<=((j.alloc (.cells #[.bool f,.string t] 80)).alloc (.cells #[.bool f,.string t] 80)).heap.size:=(k.trans (v.trans A)).size;have b5:Hid (∀B u,([.bool f,.string t]:List NJ)[B]? =some u->((j.alloc (.cells #[.bool f,.string t] 80)).alloc (.cells #[.bool f,.string t] 80)).cell? ((⟨j.heap.size+1,0,none⟩:Addr).add B)=some u):=λB u C=>by have:=X_ (j.alloc (.cells #[.bool f,.string t] 80)) #[.bool f,.string t] 80 B u C;rw[MS] at this;rw[MZ];exact this
    have b6:Hid (∀u∈([.bool f,.string t]:List NJ),u.oneCell'=true):=λu C=>by simp only[Na,Nb,or_false] at C;rcases C with rfl | rfl <;> rfl
    have KK:=Kz (k.trans (v.trans A));have G:c.length<=1000:=by have:=Z.o;omega
    obtain⟨ic,b7,b8,b9,c1⟩:=aU Tryz.CY;clear v M A;go_wp2_with (at_builtin;refine wpList_append_own _ rfl (.tmp 31) (.tmp 33) 181 rfl b.heap.size 80 ic _ 2 24 underlying181 b7 b8 b9 c1 rfl E8 (.slice I c.length J) c.length (dC c) rfl a3.o ⟨j.heap.size+1,0,none⟩ 1 1 [.bool f,.string t] rfl rfl b5.o b6.o F5 E5 b4 ?_;intro v' w6 N a4 _;have KP:=aK KK.out (Me _) a3.o a4;have HP:=Kz N;obtain⟨c5,c6,rfl⟩:=ay N;clear N a4)
    go_roundg (gk-1)
    case measure=>omega
    case rel=>exact⟨i+1,c++ [⟨f,t⟩],F3,E5,by rw[MU,Z.o];rfl,Kz (by rw[Ml r];exact nX Y.o (by rw[a1.o] at L;simpa[List.getD,r] using L.o)),KP,Kz (by rw[oK,MU];exact HP.o)⟩
  .have c2:i=s.asks.length:=E5;go_wp2
   go_ret2
   refine⟨⟨I,_,J,true,rfl,λ_=>⟨c, ?_,rfl, ?_⟩,(λh=>(by cases h))⟩,X.o.trans k⟩
   .have:=Y.o;rw[c2,MN] at this;exact this
   .obtain⟨d2,c7,e2,_,hT⟩:=jB H.o;simp only[MW,true_and] at e2;obtain⟨rfl,_⟩:=e2;exact hT.answers
def IE(Kq:List Qz)(r:Q_):Prop:=∃A,Kk Kq r.name=some A/\0<=r.at'/\r.at' < A.steps.length
def bg(W:dA):Prop:=∀n A,W n=some A->gM A/\je n
theorem uo :∀{xs:List Xz} {k j:Nat},nW xs k=some j->∃i,j=k+i/\i<xs.length/\iy (xs.getD i Xz.zero)/\l_ xs iy i
 | [],_,_,h=>by simp[nW] at h
 | x :: l,k,j,h=>by
  unfold nW at h;by_cases a:x.fail=true
  .rw[Nt a] at h;cases h;exact⟨0,rfl,E9,a,λj b=>aO b⟩
  .rw[Nu a] at h;obtain⟨i,f,c,d,e⟩:=uo h;refine⟨i+1,E5,by simpa using c,d,λj b=>?_⟩;cases j with
   | zero=>exact a
   | succ j=>exact e j E5
theorem uf :∀{xs:List Xz} {k:Nat},nW xs k=none->l_ xs iy xs.length
 | [],_,_=>λj b=>aO b
 | x :: l,k,h=>by
  unfold nW at h;by_cases c:x.fail=true
  .rw[Nt c] at h;cases h
  .rw[Nu c] at h;have:=uf h;intro j b;cases j with
   | zero=>exact c
   | succ j=>exact this j (by simpa using b)
theorem tJ(t:NG)(els:Int):∀(l:List bO),(∃i,i<l.length/\(l.getD i bO.zero).text=t/\(∀j,j<i->(l.getD j bO.zero).text≠t)/\oD t els l= (l.getD i bO.zero).goto)\/((∀j,j<l.length->(l.getD j bO.zero).text≠t)/\oD t els l=els)
 | []=>.inr ⟨λj a=>aO a,rfl⟩
 | c :: l=>by
  by_cases b:c.text=t
  .exact .inl ⟨0,E9,b,λj a=>aO a,by simp[oD,b,List.getD]⟩
  .have f:oD t els (c :: l)=oD t els l:=by simp[oD,b]
   rw[f];rcases tJ t els l with⟨i,d,e,h,k⟩|⟨d,e⟩
   .refine .inl ⟨i+1,by simpa using d,e,λj a=>?_,k⟩;cases j with
    | zero=>exact b
    | succ j=>exact h j E5
   .refine .inr ⟨λj a=>?_,e⟩;cases j with
    | zero=>exact b
    | succ j=>exact d j (by simpa using a)
variable {xs : List Xz}
theorem iT{s:Xq}(h:xg s xs):Followed s xs (eP s xs):=by
 refine .inr ⟨h, ?_⟩;unfold eP;cases e:nW xs 0 with
 | some j=>
  obtain⟨i,p,f,k,l⟩:=uo e;have:j=i:=E5;subst this;refine .inl ⟨j,f,k,l, ?_⟩;by_cases a:s.fall= -1
  .exact .inl ⟨a,by simp[a]⟩
  .exact .inr ⟨a,by simp[a]⟩
 | none=>
  refine .inr ⟨uf e,_, ?_,rfl⟩;by_cases b:xs.length=0
  .rw[Nt b];exact .inl ⟨b,rfl⟩
  .rw[Nu b];refine .inr ⟨b, ?_⟩;rcases tJ (lW xs s.on) s.els s.cases with⟨i,c,d,m,n⟩|⟨c,d⟩
   .exact .inl ⟨i,c,d,m,n⟩
   .exact .inr ⟨c,d⟩
theorem kH.KG{cost:Int}{l:List Xq}{a:Int}{ans:List Xz}{g:bW}(h:kH cost l a ans g):(g.code=0->g.over=false->0<=g.at'/\g.at' < l.length)/\(g.over=true->7<=g.text.size):=by
 rcases h with⟨_,rfl⟩|⟨⟨c,⟨w,x⟩,d⟩,h⟩
 .exact⟨λe=>by simp[bW.none] at e,λe=>by simp[bW.none] at e⟩
 .have f:a.toNat<l.length:=E5;have j:kN (jC l a) l.length:=c.2.2 a.toNat f;obtain⟨⟨_,_,_,k,_,b,m,_⟩,n⟩:=j.2 d;rcases h with⟨_,rfl⟩|⟨p,⟨i,q,_,_,⟨_,rfl⟩|⟨y,rfl⟩⟩|⟨_,r,s,rfl⟩⟩
  .exact⟨λe=>by simp[bW.none] at e,λe=>by simp[bW.none] at e⟩
  .refine⟨λ_ e=>by simp at e,λ_=>?_⟩;have:=(k i (by rw[<-p.1];exact q)).1.1;show 7<=(jH (jC l a) i).size;unfold jH;rw[ByteArray.size_append];show 7<=6+_;omega
  .exact⟨λ_ _=>⟨by show 0<=(jC l a).fall;omega,m.2⟩,λe=>by simp at e⟩
  .refine⟨λ_ _=>?_,λe=>by simp at e⟩;show 0<=r/\r<l.length;rcases s with⟨_,rfl⟩ | ⟨_,⟨t,v,_,_,rfl⟩ | ⟨_,rfl⟩⟩
   .exact b
   .exact (n t v).2
   .exact b
theorem xe(s:Xq)(a:List Xz):(eP s a).code=0:=by
 unfold eP
 split
 .split <;> rfl
 .rfl
structure Q_.Good (Kq:List Qz) (r:Q_):Prop where
 act:IE Kq r
 lo:0<=r.Zq
 hi:r.Zq<=20
 tl:(r.texts.length:Int)<=5*r.Zq
 ts:∀t∈r.texts,t.size<=200
 tx:r.text.size<=200
 stp:∀A,Kk Kq r.name=some A->r.over=false->r.Zq≠0->(stepOf A r.at').fin=false
def dm(Kq:List Qz)(σ:Env):Prop:=∀n r,σ n=some r->r.name=n/\r.Good Kq
theorem GG{n:NG}(h:n.size<=20):(wK n).size<=200:=by
 unfold wK;rw[ByteArray.size_append];show 3+n.size<=200;omega
variable {Kq : List Qz}
theorem vX{σ:Env}{n:NG}{x:Xz}(b:dm Kq σ)(c:n.size<=20)(h:bH (Kk Kq) σ n=some x):x.text.size<=200:=by
 unfold bH at h
 split at h
 .simp only[MV] at h;subst h;exact GG c
 .split at h
  .rename_i r hr
   split at h
   .simp only[MV] at h;subst h;exact (b n r hr).2.tx
   .cases h
  .cases h
theorem oF{W:dA}{σ:Env}{p:Xz->Prop}:∀{l:List NG} {xs:List Xz},(∀n∈l,∀x,bH W σ n=some x->p x)->Yz W σ l=some xs->xs.length=l.length/\∀x∈xs,p x
 | [],xs,_,h=>by
  simp only[Yz,MV] at h;subst h;exact⟨rfl,λx f=>by cases f⟩
 | a :: l,xs,hp,h=>by
  unfold Yz at h;cases b:bH W σ a with
  | none=>simp[b] at h
  | some x=>
   cases c:Yz W σ l with
   | none=>simp[b,c] at h
   | some ys=>
    simp only[b,c,MV] at h;subst h;obtain⟨i,j⟩:=oF (p:=p) (λn k=>hp n (MB _ k)) c;refine⟨by simp[i],λy d=>?_⟩;rcases Na.1 d with rfl | d
    .exact hp a E9 y b
    .exact j y d
theorem nu{σ:Env}{s:Xq}(b:dm Kq σ)(c:∀n∈s.asks,n.size<=20)(h:Yz (Kk Kq) σ s.asks=some xs):xg s xs/\∀x∈xs,x.text.size<=200:=by
 obtain⟨d,a⟩:=oF (p:=λx=>x.text.size<=200) (λn e x f=>vX b (c n e) f) h;refine⟨⟨d,λ⟨i,j,k⟩=>?_⟩,a⟩;have:=a (xs.getD i Xz.zero) (by simp[List.getD,j]);unfold ow at k;omega
theorem ib{A:fJ}(e:gM A){i:Int}(h:0<=i)(k:i<A.steps.length):(stepOf A i).asks.length<=5/\∀n∈(stepOf A i).asks,je n:=by
 have b:kN (stepOf A i) A.steps.length:=e.2.2 i.toNat E5;cases c:(stepOf A i).fin with
 | true=>
  have:=(b.1 c).1;refine⟨E5,λn a=>?_⟩;rw[Nz this] at a;cases a
 | false=>
  have:=(b.2 c).1;refine⟨this.2.2.1,λn a=>?_⟩;obtain⟨j,d,f⟩:=Ms a;have:=(this.2.2.2.1 j d).1;simp only[List.getD,Mj d,f,Nw] at this;exact this
theorem zP{s:Xq}{i:Nat}(h:∀n∈s.asks,n.size<=20):(jH s i).size<=200:=by
 unfold jH;rw[ByteArray.size_append];show 6+_<=200;by_cases a:i<s.asks.length
 .have:=h (s.asks.getD i ByteArray.empty) (by simp[List.getD,a]);omega
 .have e:s.asks.getD i ByteArray.empty=ByteArray.empty:=by simp[List.getD,a]
  rw[e]
  decide
theorem JO(give:NG)(l:List NG):(mY give l).size<=200:=by
 show (mr give.data.toList (texts l)).toArray.size<=200;unfold mr
 split
 .simp
 .split
  .simpa using ‹_›
  .simp[iC]
theorem qH(a:List Xz):(aL a).length<=a.length:=by
 unfold aL;rw[Nn];exact List.length_filter_le _ _
theorem ny{t:NG}(h:t∈aL xs):∃x∈xs,x.text=t:=by
 unfold aL at h;rw[MH] at h;obtain⟨x,b,e⟩:=h;exact⟨x,(List.mem_filter.1 b).1,e⟩
theorem uG{A:fJ}{r:Q_}(a:Kk Kq r.name=some A)(b:0<=r.at')(c:r.at' < A.steps.length)(lo:0<=r.Zq)(hi:r.Zq<20)(d:(r.texts.length:Int)<=5*(r.Zq+1))(e:∀t∈r.texts,t.size<=200)(f:r.text.size<=200):(dZ A r).1.Good Kq:=by
 unfold dZ;cases h:(stepOf A r.at').fin with
 | true=>
  simp only[if_true];exact⟨⟨A,a,b,c⟩,by show 0<=r.Zq+1;omega,by show r.Zq+1<=20;omega,d,e,JO _ _,λ_ _ i=>by simp at i⟩
 | false=>
  simp only[Bool.false_eq_true,if_false];refine⟨⟨A,a,b,c⟩,by show 0<=r.Zq+1;omega,by show r.Zq+1<=20;omega,d,e,f,λj k _ _=>?_⟩;have:A=j:=Ng (a.symm.trans k);subst this;exact h
theorem dP{σ:Env}{r:Q_}(y:bg (Kk Kq))(z:dm Kq σ)(h:r.Good Kq)(j:aT (Kk Kq) σ r):(Xx (Kk Kq) σ r).1.Good Kq:=by
 obtain⟨A,b,d,e⟩:=h.act;have k:=(y _ _ b).1;unfold Xx;rw[b];simp only;by_cases f:r.Zq=0
 .rw[Nt f];have:=h.tl;exact uG b d e h.lo E5 E5 h.ts h.tx
 .rw[Nu f];rcases j.2 with B|⟨R,a,l,m⟩
  .exact Nv B f
  .rw[b] at l;cases l;rw[m];simp only;have S:=h.lo;have T:=h.hi;have U:=h.tl;by_cases p:r.Zq=20
   .rw[Nt p];exact⟨⟨A,b,d,e⟩,h.lo,h.hi,h.tl,h.ts,by show iJ.size<=200;decide,λ_ _ h=>by simp at h⟩
   .rw[Nu p];obtain⟨C,D⟩:=ib k d e;have q:∀n∈(stepOf A r.at').asks,n.size<=20:=λn E=>(D n E).2.1
    obtain⟨s,F⟩:=nu z q m;have G:=iT s;have V:kH A.cost A.steps r.at' a (eP (stepOf A r.at') a):= .inr ⟨⟨k,⟨d,e⟩,h.stp A b j.1 f⟩,G⟩;by_cases c:(eP (stepOf A r.at') a).over=true
    .rw[Nt c];refine⟨⟨A,b,d,e⟩,by show 0<=r.Zq+1;omega,by show r.Zq+1<=20;omega,by show (r.texts.length:Int)<=5*(r.Zq+1);omega,h.ts, ?_,λ_ _ h=>by simp at h⟩;show (eP (stepOf A r.at') a).text.size<=200;unfold eP
     split
     .split
      .exact zP q
      .show (⟨#[]⟩:NG).size<=200;decide
     .show (⟨#[]⟩:NG).size<=200;decide
    .rw[Nu c];have t:0<=(eP (stepOf A r.at') a).at'/\(eP (stepOf A r.at') a).at' < A.steps.length:=by
      have H:(stepOf A r.at').fin=false:=h.stp A b j.1 f;have I:kN (stepOf A r.at') A.steps.length:=k.2.2 r.at'.toNat E5;obtain⟨⟨_,_,_,_,_,v,J,_⟩,K⟩:=I.2 H;unfold eP at c⊢
      split
      .rename_i w hi'
       rw[hi'] at c;simp only at c;by_cases x:(stepOf A r.at').fall= -1
       .rw[Nt x] at c;simp at c
       .rw[Nu x];exact⟨by show 0<=(stepOf A r.at').fall;omega,J.2⟩
      .show 0<=(if a.length=0 then _ else _)/\(if a.length=0 then _ else _)<_
       split
       .exact v
       .rcases tJ (lW a (stepOf A r.at').on) (stepOf A r.at').els (stepOf A r.at').cases with⟨w,L,_,_,M⟩|⟨_,N⟩
        .rw[M];exact (K w L).2
        .rw[N];exact v
     have W:=qH a;have X:a.length<=5:=by rw[s.1];exact C
     refine uG (r:={r with texts:=r.texts++aL a,at':=(eP (stepOf A r.at') a).at'}) b t.1 t.2 h.lo (by show r.Zq<20;omega) ?_ (λO i=>?_) h.tx
     .show ((r.texts++aL a).length:Int)<=5*(r.Zq+1);rw[MU]
      push_cast
      omega
     .rcases Mo.1 i with i|i
      .exact h.ts O i
      .obtain⟨P,Q,rfl⟩:=ny i;exact F P Q
def LF(w w':NI)(a:NH)(n cap:Nat)(d:NH)(m dc:Nat)(e:Ending):Prop:=∃kb,e= .returned (.c kb)/\gQ w' kb a n cap d m dc/\K_ w w'
theorem uh(w:NI)(a:NH)(n b:Nat)(f:NH)(h i:Nat)(d:NH)(m c:Nat):
  Calls prog 121 #[.agg #[.slice a n b],.agg #[.slice f h i,.slice d m c]] w λe w'=>LF w w' a n b d m c e:=by
 go_enter func121,ntmps121
 go_wp2
 go_ret
 have j:=aD.made ((w.alloc (.cells #[.slice a n b] 25)).alloc (.cells #[.slice f h i,.slice d m c] 32)) #[.slice a n b,.slice d m c] 86;have k:=X_ ((w.alloc (.cells #[.slice a n b] 25)).alloc (.cells #[.slice f h i,.slice d m c] 32)) #[.slice a n b,.slice d m c] 86 0 _ rfl;have l:=X_ ((w.alloc (.cells #[.slice a n b] 25)).alloc (.cells #[.slice f h i,.slice d m c] 32)) #[.slice a n b,.slice d m c] 86 1 _ rfl;simp only[MS,MM] at j k l;exact⟨_,rfl,⟨j,k,l⟩,((ah w _).alloc _).alloc _⟩
def jc(Kq:List Qz):Prop:=∀y∈Kq,∀s∈y.steps,s.asks.length<=1000/\∀x∈s.asks,x.size<=1000
theorem zI(w:NI)(a:NH)(h:Nat)(c:List Qz)(m:NH)(n p:Nat)(d:NH)(j:Nat)(l:List Q_)(r:Q_)(xa:NH)(xc:Nat)(Y:c.length<=1048576)(a8:l.length<=1048576)(Z:jc c)
  (a9:r.over=false->r.Zq≠0->IE c r) (hN:bT w a c) (hS:cB w d l):
  Calls prog 68 #[.agg #[.slice a c.length h],.agg #[.slice m n p,.slice d l.length j],.agg #[.string r.name,.bool r.over,.bool r.fail,.string r.text,.a r.at',.a r.Zq,.slice xa r.texts.length xc]] w λe w'=>Says e (aT (Kk c) (Qq l) r)/\K_ w w':=by
 obtain⟨f,v⟩:=aj (((w.alloc (.cells #[.slice a c.length h] 25)).alloc (.cells #[.slice m n p,.slice d l.length j] 32)).alloc (.cells #[.string r.name,.bool r.over,.bool r.fail,.string r.text,.a r.at',.a r.Zq,.slice xa r.texts.length xc] 40));have kB:K_ w f:=by rw[v];exact ((ah _ _).alloc _).alloc _
 have a0:f.heap.size=w.heap.size+3:=by rw[v];simp
 have b0:f.cell? ⟨w.heap.size,0,none⟩=some (.slice a c.length h):=by rw[v,K_.cell (w:=w.alloc (.cells #[.slice a c.length h] 25)) ((ah _ _).alloc _) E9];exact X_ w _ _ 0 _ rfl
 have s0:f.cell? ⟨w.heap.size+1,0,none⟩=some (.slice m n p):=by have:=X_ (w.alloc (.cells #[.slice a c.length h] 25)) #[.slice m n p,.slice d l.length j] 32 0 _ rfl;rw[MS] at this;rw[v,K_.cell (w:=(w.alloc (.cells #[.slice a c.length h] 25)).alloc (.cells #[.slice m n p,.slice d l.length j] 32)) (ah _ _) E9];exact this
 have s1:f.cell? ⟨w.heap.size+1,1,none⟩=some (.slice d l.length j):=by have:=X_ (w.alloc (.cells #[.slice a c.length h] 25)) #[.slice m n p,.slice d l.length j] 32 1 _ rfl;rw[MS] at this;rw[v,K_.cell (w:=(w.alloc (.cells #[.slice a c.length h] 25)).alloc (.cells #[.slice m n p,.slice d l.length j] 32)) (ah _ _) E9];exact this
 have E:∀I J,(#[.string r.name,.bool r.over,.bool r.fail,.string r.text,.a r.at',.a r.Zq,.slice xa r.texts.length xc]:Array NJ).toList[I]? =some J->f.cell? ⟨w.heap.size+2,I,none⟩=some J:=λI J x=>by have:=X_ ((w.alloc (.cells #[.slice a c.length h] 25)).alloc (.cells #[.slice m n p,.slice d l.length j] 32)) #[.string r.name,.bool r.over,.bool r.fail,.string r.text,.a r.at',.a r.Zq,.slice xa r.texts.length xc] 40 I J x;rw[MS,MS,MM] at this;rw[v];exact this
 have r0:=E 0 _ rfl;have N:=E 1 _ rfl;have r4:=E 4 _ rfl;have r5:=E 5 _ rfl;have z0:w.heap.size<f.heap.size:=E5;have z1:w.heap.size+1<f.heap.size:=E5;have z2:w.heap.size+2<f.heap.size:=E5;have⟨B,c2⟩:=aH kB a0;clear E kB a0;go_enter func68,ntmps68
 go_upto_region 1 with fail
 rw[<-v];clear v;cases C:r.over
 .rw[C] at N;by_cases x:r.Zq=0
  .have b1:(r.Zq == 0)=true:=by simp[x]
   go_wp2
   go_ret
   exact⟨.yes ⟨C,.inl x⟩,B.o⟩
  .have b1:(r.Zq == 0)=false:=by simpa using x
   obtain⟨c4,L,b2,a1⟩:=a9 C x;have i:Hid (∀w',K_ f w'->w'.cell? ⟨w.heap.size,0,none⟩=some (.slice a c.length h)/\w'.cell? ⟨w.heap.size+1,0,none⟩=some (.slice m n p)/\w'.cell? ⟨w.heap.size+1,1,none⟩=some (.slice d l.length j)/\w'.cell? ⟨w.heap.size+2,0,none⟩=some (.string r.name)/\w'.cell? ⟨w.heap.size+2,4,none⟩=some (.a r.at')):=λw' K=>⟨(K.cell z0).trans b0,(K.cell z1).trans s0,(K.cell z1).trans s1,(K.cell z2).trans r0,(K.cell z2).trans r4⟩
   go_upto_region 5 with fail
   refine gY 22 i.o (aV f) (λk=>?_);have KD:K_ f f.drew:=aV f;generalize b3:f.drew=wd at k KD⊢;clear b3 b0 s0 s1 r0 r4 N r5;refine ae 0 k ?_;refine ae 1 k ?_;refine au 3 k ?_;refine ae 7 k ?_;refine ae 13 k ?_;refine ae 14 k ?_;refine aG 2 (λK b=>?_);go_simp
   go_at_call 121
   refine (uh wd a c.length h m n p d l.length j).mono ?_;rintro e w1 ⟨kb,rfl,a2,k1⟩;have O:=KD.trans k1;have b4:=Kz a2;clear a2 k1;dsimp only;refine af b (λ_=>i.o _ O) ?_;clear b K;clear k;refine aG 8 (λK b=>?_);go_simp
   go_at_call 37
   refine (fF w1 a h c r.name Y ((hN.kept B.o).kept O)).mono ?_;rintro e w2 ⟨⟨c5,rfl,hq⟩,P⟩;have q:=O.trans P;have b5:=Kz (b4.o.kept P);clear P;rcases hq with⟨Q,hk,rfl,z,_⟩|⟨rfl,z⟩
   .rw[L] at z;simp only[Option.some.injEq] at z;have R:=(hN.kept B.o).kept q;obtain⟨nb,nq,cs,rfl,c6,S,na,nc,rfl,T⟩:=R Q hk;obtain⟨y,U⟩:=aj (c.getD Q Qz.zero);rw[<-U] at S T z;have n2:=S 2 _ rfl;subst z;obtain⟨D,F⟩:∃D:Nat,r.at'= (D:Int):=⟨r.at'.toNat,E5⟩;have a3:D<y.steps.length:=by have s:=a1;rw[F] at s;dsimp only at s;omega
    obtain⟨tb,tq,c7,rfl,c8,t,aa,ca,ac,cc,rfl,V,a4,_⟩:=T D a3;obtain⟨G,M⟩:=aj (y.steps.getD D Xq.zero);rw[<-M] at t V a4;have t0:=t 0 _ rfl;have t1:=t 1 _ rfl;have t2:=t 2 _ rfl;have t3:=t 3 _ rfl;have t4:=t 4 _ rfl;have t5:=t 5 _ rfl;have t6:=t 6 _ rfl;have t7:=t 7 _ rfl;rw[M_] at t0;have c9:(Q:Int)<(c.length:Int):=E5;have d0:(D:Int)<(y.steps.length:Int):=E5;have W:G∈y.steps:=by rw[M];simp[List.getD,a3]
    have X:y∈c:=by rw[U];simp[List.getD,hk]
    have b6:=(Z y X G W).1;have b7:=(Z y X G W).2;have b8:=Kz V;have b9:=Kz (hS.kept (B.o.trans q));have c0:=Kz R;have a5:Hid (stepOf ⟨y.cost,y.steps⟩ r.at'=G):=by show _=_;unfold stepOf;rw[F,M];rfl
    have HA:=Kz L;clear S t V a4 T U M L R b2 a1 W X;rw[F];have d1:=Kz F;clear F;dsimp only;refine af b (λ_=>i.o _ q) ?_;clear b K;refine ai 9 (λK b=>?_);go_simp
    refine af b (λ_=>i.o _ q) ?_;clear b K;refine ai 10 (λK b=>?_);go_simp
    refine af b (λ_=>i.o _ q) ?_;clear b K;refine ai 11 (λK b=>?_);go_simp
    refine af b (λ_=>i.o _ q) ?_;clear b K;refine ai 12 (λK b=>?_);go_simp
    refine af b (λ_=>i.o _ q) ?_;clear b K;refine ai 15 (λK b=>?_);go_simp
    refine af b (λ_=>i.o _ q) ?_;clear b K;refine ai 16 (λK b=>?_);go_simp
    refine af b (λ_=>i.o _ q) ?_;clear b K;refine aG 17 (λK b=>?_);go_simp
    go_at_call 122
    refine (oC w2 kb (some ⟨nb,nq,none⟩) h c d j l G aa ac ca cc Y a8 b6 b7 b5.o c0.o b9.o b8.o).mono ?_;rintro e w3 ⟨⟨d3,n3,c3,ok,rfl,a6,a7⟩,k3⟩;have H:=q.trans k3;have⟨HY,c1⟩:=aH a6 a7;clear a6 a7 k3 t0 t1 t2 t3 t4 t5 t6 t7 n2;dsimp only;refine af b (λ_=>i.o _ H) ?_;clear b K;refine ai 18 (λK b=>?_);go_simp
    refine af b (λ_=>i.o _ H) ?_;clear b K;have k:=i.o _ H;refine ae 19 k ?_;refine ae 20 k ?_;refine ai 21 (λK b=>?_);go_simp
    refine af b (λ_=>i.o _ H) ?_;clear b K;refine ai 22 (λK b=>?_);go_simp
    refine af b (λA=>Nv rfl A) ?_;clear b K;refine aF ?_;go_wp2
    go_ret
    refine⟨?_,B.o.trans H⟩;cases ok
    .refine .no λA=>?_
     rcases A.2 with A|⟨A',xs,s,h2⟩
     .exact x A
     .rw[HA.o] at s;cases s;rw[a5.o,c1.o rfl] at h2;cases h2
    .obtain⟨xs,s,_⟩:=HY.o rfl;exact .yes ⟨C,.inr ⟨_,xs,HA.o,by rw[a5.o];exact s⟩⟩
   .rw[L] at z;cases z
 .rw[C] at N;go_wp2
  go_ret
  exact⟨.no (λA=>(by have s:=A.1;rw[C] at s;cases s)),B.o⟩
def bN(W:dA):List Q_->List NG->List Q_
 | l,[]=>l
 | l,a :: bs=>bN W (if (W a).isSome=true/\(Qq l a).isNone=true then l++ [Q_.fresh a] else l) bs
theorem Ho(l:List Q_)(x:Q_)(m:NG):Qq (l++ [x]) m=match Qq l m with | some r=>some r | none=>if x.name=m then some x else none:=by
 unfold Qq;rw[List.find?_append];cases h:l.find? λr=>decide (r.name=m) with
 | some r=>rfl
 | none=>
  by_cases e:x.name=m
  .simp[e]
  .simp[e]
theorem mE(W:dA):∀(bs:List NG) (l:List Q_) (m:NG),Qq (bN W l bs) m=match Qq l m with | some r=>some r | none=>if eH bs m=true/\(W m).isSome=true then some (Q_.fresh m) else none
 | [],l,m=>by
  show Qq l m=_;cases Qq l m with
  | some r=>rfl
  | none=>simp[eH]
 | a :: bs,l,m=>by
  show Qq (bN W (if (W a).isSome=true/\(Qq l a).isNone=true then l++ [Q_.fresh a] else l) bs) m=_;rw[mE W bs];have d:eH (a :: bs) m=true↔a=m\/eH bs m=true:=by simp[eH]
  by_cases e:(W a).isSome=true/\(Qq l a).isNone=true
  .rw[Nt e,Ho];cases k:Qq l m with
   | some r=>rfl
   | none=>
    simp only;by_cases h:a=m
    .subst h;have i:(Q_.fresh a).name=a:=rfl;rw[Nt i];simp only;rw[Nt ⟨d.2 (.inl rfl),e.1⟩]
    .have i:(Q_.fresh a).name≠m:=h;rw[Nu i];simp only;by_cases b:eH bs m=true/\(W m).isSome=true
     .rw[Nt b,Nt ⟨d.2 (.inr b.1),b.2⟩]
     .rw[Nu b,Nu];rintro⟨j,f⟩;rcases d.1 j with c|c
      .exact h c
      .exact b ⟨c,f⟩
  .rw[Nu e];cases k:Qq l m with
   | some r=>rfl
   | none=>
    simp only;by_cases b:eH bs m=true/\(W m).isSome=true
    .rw[Nt b,Nt ⟨d.2 (.inr b.1),b.2⟩]
    .rw[Nu b,Nu];rintro⟨j,f⟩;rcases d.1 j with c|c
     .subst c;exact e ⟨f,by rw[k];rfl⟩
     .exact b ⟨c,f⟩
theorem kJ(W:dA):∀(bs:List NG) (l:List Q_),(∀x∈l,∀y∈l,x.name=y.name->x=y)->∀x∈bN W l bs,∀y∈bN W l bs,x.name=y.name->x=y
 | [],_,h=>h
 | a :: bs,l,h=>by
  show∀x∈bN W (if (W a).isSome=true/\(Qq l a).isNone=true then l++ [Q_.fresh a] else l) bs,∀y∈bN W (if (W a).isSome=true/\(Qq l a).isNone=true then l++ [Q_.fresh a] else l) bs,_;refine kJ W bs _ ?_;by_cases d:(W a).isSome=true/\(Qq l a).isNone=true
  .rw[Nt d];have f:∀x∈l,x.name≠a:=λx b e=>by
    have:=(pG h).2 ⟨b,e⟩;rw[this] at d;simp at d
   intro x b y c e;rcases Mo.1 b with b | b <;> rcases Mo.1 c with c | c
   .exact h x b y c e
   .rw[Mm] at c;subst c;exact Nv e (f x b)
   .rw[Mm] at b;subst b;exact Nv e.symm (f y c)
   .rw[Mm] at b c;rw[b,c]
  .rw[Nu d];exact h
def doL(W:dA)(l:List Q_)(r:Q_):List Q_:=(bN W (cZ l (Xx W (Qq l) r).1) (Xx W (Qq l) r).2).foldl cZ []
variable {W : dA} {l : List Q_} {r : Q_}
theorem Aw(h:df l):df (doL W l r):=(jP _ [] List.Pairwise.nil (kJ W _ _ (qZ (oG h)))).1
theorem pI{n:NG}(h:df l)(a:Qq l n=some r):Qq (doL W l r)=doX W (Qq l) n:=by
 funext m
 have c:r.name=n:=(aY a).2;have d:(Xx W (Qq l) r).1.name=n:=by rw[di];exact c
 unfold doL;rw[(jP _ [] List.Pairwise.nil (kJ W _ _ (qZ (oG h)))).2 m,mE,vT h,dV a,d];by_cases e:m=n
 .rw[Nt e,Nt e]
 .rw[Nu e,Nu e];cases f:Qq l m with
  | some x=>rfl
  | none=>
   simp only;by_cases b:eH (Xx W (Qq l) r).2 m=true/\(W m).isSome=true
   .rw[Nt b]
   .rw[Nu b]
    rfl
structure dD (Kq:List Qz) (l:List Q_):Prop where
 asc:df l
 good:∀r∈l,r.Good Kq
variable {Kq : List Qz}
theorem dD.env(h:dD Kq l):dm Kq (Qq l):=λ_n r a=>⟨(aY a).2,h.good r (aY a).1⟩
theorem gL(c:bg (Kk Kq)){a:NG}(h:(Kk Kq a).isSome=true):(Q_.fresh a).Good Kq:=by
 obtain⟨A,b⟩:=MF.1 h;have e:=(c a A b).1.2.1.1;exact⟨⟨A,b,Int.le_refl _,by show (0:Int)<A.steps.length;omega⟩,Int.le_refl _,by show (0:Int)<=20;omega,by show ((([]:List NG).length:Nat):Int)<=5*0;simp,λt d=>(by cases d),by show (⟨#[]⟩:NG).size<=200;decide,λ_ _ _ h=>Nv rfl h⟩
theorem rU(c:bg (Kk Kq))(h:dD Kq l)(d:r∈l)(i:aT (Kk Kq) (Qq l) r):dD Kq (doL (Kk Kq) l r):=by
 refine⟨Aw h.asc,λx j=>?_⟩;have e:=bJ h.asc d;have a:=bJ (Aw (W:=Kk Kq) (r:=r) h.asc) j;rw[pI h.asc e,dV e] at a;by_cases f:x.name=r.name
 .rw[Nt f] at a;cases a;exact dP c h.env (h.good r d) i
 .rw[Nu f] at a;cases b:Qq l x.name with
  | some y=>
   rw[b] at a;cases a;exact h.good x (aY b).1
  | none=>
   rw[b] at a;simp only at a
   split at a
   .rename_i hc2
    have k:Q_.fresh x.name=x:=Ng a;rw[<-k];exact gL c hc2.2
   .cases a
inductive bU (W:dA) (σ:Env):List Q_->List NG->Prop
 | nil:bU W σ [] []
 | yes {l:List Q_} {ns:List NG} {r:Q_} (h:bU W σ l ns) (hr:aT W σ r):bU W σ (l++ [r]) (ns++ [r.name])
 | no {l:List Q_} {ns:List NG} {r:Q_} (h:bU W σ l ns) (hr:¬aT W σ r):bU W σ (l++ [r]) ns
variable {σ : Env} {ns : List NG}
theorem bU.mem(h:bU W σ l ns)(n:NG):n∈ns↔∃r∈l,r.name=n/\aT W σ r:=by
 induction h with
 | nil=>simp
 | yes h hr ih=>
  rename_i l ns r
  rw[Mo,ih,Mm];constructor
  .rintro (⟨x,a,b⟩|rfl)
   .exact⟨x,Mo.2 (.inl a),b⟩
   .exact⟨r,Mo.2 (.inr E9),rfl,hr⟩
  .rintro⟨x,a,b,d⟩;rcases Mo.1 a with a|a
   .exact .inl ⟨x,a,b,d⟩
   .rw[Mm] at a;subst a;exact .inr b.symm
 | no h hr ih=>
  rename_i l ns r
  rw[ih];constructor
  .rintro⟨x,a,b⟩;exact⟨x,Mo.2 (.inl a),b⟩
  .rintro⟨x,a,b,d⟩;rcases Mo.1 a with a|a
   .exact⟨x,a,b,d⟩
   .rw[Mm] at a;subst a;exact Nv d hr
theorem bU.nodup(h:bU W σ l ns)(b:df l):ns.Nodup:=by
 induction h with
 | nil=>exact List.nodup_nil
 | yes h hr ih=>
  rename_i l ns r
  have c:=MK.1 b;rw[List.nodup_append];refine⟨ih c.1,E9, ?_⟩;intro a f j d;rw[Mm] at d;subst d;obtain⟨x,i,rfl,_⟩:=(h.mem a).1 f;exact dJ (c.2.2 x i r E9)
 | no h hr ih=>exact ih (MK.1 b).1
theorem bU.ready(h:bU W (Qq l) l ns)(c:df l)(n:NG):n∈ns↔bB W (Qq l) n:=by
 rw[h.mem];constructor
 .rintro⟨r,a,rfl,b⟩;exact⟨r,bJ c a,b⟩
 .rintro⟨r,a,d⟩;obtain⟨b,e⟩:=aY a;exact⟨r,b,e,d⟩
theorem bU.len(h:bU W σ l ns):ns.length<=l.length:=by
 induction h with
 | nil=>exact Me _
 | yes _ _ ih=>simp only[MU,NB];omega
 | no _ _ ih=>simp only[MU,NB];omega
theorem bU.unique{b:List NG}(h:bU W σ l ns)(g:bU W σ l b):ns=b:=by
 induction h generalizing b with
 | nil=>
  generalize e:([]:List Q_)=l at g;cases g with
  | nil=>rfl
  | yes=>simp at e
  | no=>simp at e
 | yes h hr ih=>
  rename_i l ns r
  generalize e:l++ [r]=d at g;cases g with
  | nil=>simp at e
  | yes g gr=>
   rw[List.append_singleton_inj] at e;obtain⟨rfl,rfl⟩:=e;rw[ih g]
  | no g gr=>
   rw[List.append_singleton_inj] at e;obtain⟨rfl,rfl⟩:=e;exact Nv hr gr
 | no h hr ih=>
  rename_i l ns r
  generalize e:l++ [r]=d at g;cases g with
  | nil=>simp at e
  | yes g gr=>
   rw[List.append_singleton_inj] at e;obtain⟨rfl,rfl⟩:=e;exact Nv gr hr
  | no g gr=>
   rw[List.append_singleton_inj] at e;obtain⟨rfl,rfl⟩:=e;exact ih g
def bM(Kq:List Qz)(Kj:List NG):List Q_:=(bN (Kk Kq) [] Kj).foldl cZ []
theorem vH(a:List Qz)(Kj:List NG):df (bM a Kj):=(jP _ [] List.Pairwise.nil (kJ (Kk a) Kj [] (λ_ h=>by cases h))).1
theorem gP(b:List Qz)(Kj:List NG)(n:NG):Qq (bM b Kj) n=if eH Kj n=true/\(Kk b n).isSome=true then some (Q_.fresh n) else none:=by
 unfold bM;rw[(jP _ [] List.Pairwise.nil (kJ (Kk b) Kj [] (λ_ h=>by cases h))).2 n,mE];show (match (if eH Kj n=true/\(Kk b n).isSome=true then some (Q_.fresh n) else none) with | some r=>some r | none=>Qq [] n)=_
 split
 .rename_i r h;rw[h]
 .rename_i h;rw[h];rfl
theorem fZ(c:bg (Kk Kq))(Kj:List NG):dD Kq (bM Kq Kj):=by
 refine⟨vH Kq Kj,λr d=>?_⟩;have a:=bJ (vH Kq Kj) d;rw[gP] at a
 split at a
 .rename_i h2
  have e:Q_.fresh r.name=r:=Ng a;rw[<-e];exact gL c h2.2
 .cases a
theorem dD.wf(h:dD Kq l):WfX (Kk Kq) (Qq l):=λn r c=>by
 obtain⟨d,b⟩:=aY c;have a:=h.good r d;obtain⟨A,e,_⟩:=a.act;exact⟨b,by rw[<-b,e];rfl,a.lo,a.hi⟩
theorem lK{n:NG}(h:(Kk Kq n).isSome=true):n∈Kq.map (·.name):=by
 obtain⟨A,c⟩:=MF.1 h;obtain⟨k,a,e,_⟩:=gp c;rw[MH];refine⟨Kq.getD k Qz.zero, ?_,e⟩;simp only[List.getD,Mj a,Nw];exact Mq a
def mQ(Kq:List Qz)(l:List Q_):Nat:=b_ (Kq.map (·.name)) (Qq l)
theorem EI{n:NG}(h:dD Kq l)(b:Qq l n=some r)(c:aT (Kk Kq) (Qq l) r):mQ Kq (doL (Kk Kq) l r)<mQ Kq l:=by
 unfold mQ;rw[pI h.asc b];exact (mF h.wf ⟨r,b,c⟩ _).2 (lK (h.wf n r b).web)
theorem zz(h:df l):(l.map (·.name)).Nodup:=by
 rw[List.Nodup,List.pairwise_map];exact h.imp λb=>dJ b
theorem dD.len(h:dD Kq l):l.length<=Kq.length:=by
 have c:=List.Nodup.length_le_of_subset (zz h.asc) (l₂:=Kq.map (·.name)) (λn d=>by
  obtain⟨r,e,rfl⟩:=MH.1 d;exact lK (h.wf r.name r (bJ h.asc e)).web)
 simpa using c
theorem Ez(c:ns.Nodup){i:Nat}(hi:i<ns.length)(h:∀j,i<=j->j<ns.length->bB W σ (ns.getD j ByteArray.empty)):∀j,i+1<=j->j<ns.length->bB W (doX W σ (ns.getD i ByteArray.empty)) (ns.getD j ByteArray.empty):=by
 intro j d a;refine (nH σ _ _ ?_ (h i (Me _) hi) (h j E5 a)).1;simp only[List.getD,Mj hi,Mj a,Nw];exact Mr.1 c i j hi a E5
def EK(Kq:List Qz)(Kj:List NG)(sl:List Q_):Prop:=
 ∃k L,dD Kq L/\a_ (Behind (W:=Kk Kq) bF (Qq sl)) (doX (Kk Kq)) (Qq (bM Kq Kj)) (Qq L) k/\AtEnd (Behind (W:=Kk Kq) bF (Qq sl)) (Qq L)/\L=sl
theorem Gv{Kj:List NG}{a L:List Q_}{k:Nat}(b:dD Kq L)(c:a_ (Behind (W:=Kk Kq) bF (Qq a)) (doX (Kk Kq)) (Qq (bM Kq Kj)) (Qq L) k)(d:AtEnd (Behind (W:=Kk Kq) bF (Qq a)) (Qq L)):L=a↔EK Kq Kj a:=by
 constructor
 .intro h;exact⟨k,L,b,c,d,h⟩
 .rintro⟨j,l,e,f,i,rfl⟩;exact xq b.asc e.asc (a_.unique (ig _ _) c d f i)
structure gN (Kq:List Qz) (G:Env) (σ0:Env) (ns:List NG) (l0 l:List Q_) (i:Nat) (b:Bool):Prop where
 good:dD Kq l
 led:∃k,a_ (Behind (W:=Kk Kq) bF G) (doX (Kk Kq)) σ0 (Qq l) k
 rest:∀j,i<=j->j<ns.length->bB (Kk Kq) (Qq l) (ns.getD j ByteArray.empty)
 no:b=false->l=l0/\∀j,j<i->¬Behind (W:=Kk Kq) bF G (Qq l0) (ns.getD j ByteArray.empty)
 yes:b=true->mQ Kq l<mQ Kq l0
variable {σ0 : Env} {l0 : List Q_}
theorem gN.start{G:Env}(b:dD Kq l0)(c:∃k,a_ (Behind (W:=Kk Kq) bF G) (doX (Kk Kq)) σ0 (Qq l0) k)(d:bU (Kk Kq) (Qq l0) l0 ns):gN Kq G σ0 ns l0 l0 0 false:=
 ⟨b,c,λj _ a=>by
  rw[<-d.ready b.asc];simp only[List.getD,Mj a,Nw];exact Mq a,λ_=>⟨rfl,λj a=>aO a⟩,λh=>by cases h⟩
theorem gN.skip{G:Env}{i:Nat}{b:Bool}(h:gN Kq G σ0 ns l0 l i b)(c:¬Behind (W:=Kk Kq) bF G (Qq l) (ns.getD i ByteArray.empty)):gN Kq G σ0 ns l0 l (i+1) b:=
 ⟨h.good,h.led,λj d e=>h.rest j E5 e,λa=>⟨(h.no a).1,λj d=>by
  by_cases f:j=i
  .subst f;rw[<-(h.no a).1];exact c
  .exact (h.no a).2 j E5⟩,h.yes⟩
theorem gN.did(k:bg (Kk Kq)){G:Env}(m:ns.Nodup){i:Nat}{b:Bool}(h:gN Kq G σ0 ns l0 l i b)(hi:i<ns.length)(c:Behind (W:=Kk Kq) bF G (Qq l) (ns.getD i ByteArray.empty))(a:Qq l (ns.getD i ByteArray.empty)=some r):gN Kq G σ0 ns l0 (doL (Kk Kq) l r) (i+1) true:=by
 obtain⟨n,p⟩:=h.led;obtain⟨⟨q,d,e⟩,_⟩:=c;have c:Behind (W:=Kk Kq) bF G (Qq l) (ns.getD i ByteArray.empty):=⟨⟨q,d,e⟩,H8⟩;rw[a] at d;cases d;have f:=pI (W:=Kk Kq) h.good.asc a;have j:=EI h.good a e;refine⟨rU k h.good (aY a).1 e,⟨n+1,by rw[f];exact p.snoc c⟩,λs t v=>by rw[f];exact Ez m hi h.rest s t v,λw=>(by cases w),λ_=>?_⟩;cases b with
 | true=>have:=h.yes rfl;omega
 | false=>rw[(h.no rfl).1] at j⊢;exact j
theorem gN.JA{G:Env}(d:dD Kq l0)(e:bU (Kk Kq) (Qq l0) l0 ns)(h:gN Kq G σ0 ns l0 l ns.length false):l=l0/\AtEnd (Behind (W:=Kk Kq) bF G) (Qq l):=by
 obtain⟨b,f⟩:=h.no rfl;refine⟨b,λn a=>?_⟩;rw[b] at a;have i:=(e.ready d.asc n).2 a.1;obtain⟨j,c,k⟩:=Ms i;have:=f j c;simp only[List.getD,Mj c,Nw,k] at this;exact this a
theorem Tryz.eD :(prog.info? 9).map (λi=>(i.zero,i.size,i.bytes))=some (some (.string ByteArray.empty),1,16):=F4
variable {l : List NG} {v : NJ} {w : NI}
theorem uP{base:Nat}{t:TypeId}{n:Nat}(h:w.ownsRow base t 1 v n (l.map Value.string)):∃a b,v= .slice a l.length b/\l.length<=b/\Strs w a l:=by
 have d:n=l.length:=by have:=h.1;simp at this;omega
 subst d;rcases h.2 with⟨rfl,e⟩|⟨g,b,k,rfl,m,f,j,_,_,_⟩
 .exact⟨none,0,by rw[e],E5,λi c=>E5⟩
 .refine⟨_,b,rfl,j,λi c=>⟨g,0,rfl,aN f, ?_⟩⟩;have:=h.cells (g:=g) rfl i (.string (l.getD i ByteArray.empty)) (by simp[List.getD,c]);rw[MZ] at this;exact this
theorem yU{l:List Q_}{i:Nat}(h:i<l.length):l.take (i+1)=l.take i++ [l.getD i Q_.zero]:=by
 rw[Ml h];simp[List.getD,h]
def FY(n0:Nat)(Kq:List Qz)(l:List Q_)(w':NI)(e:Ending):Prop:=∃(da:NH) (c:Nat) (ns:List NG),e= .returned (.slice da ns.length c)/\bU (Kk Kq) (Qq l) l ns/\w'.ownsRow n0 9 1 (.slice da ns.length c) ns.length (ns.map Value.string)
theorem Gy(w:NI)(a:NH)(m:Nat)(f:List Qz)(p:NH)(q s:Nat)(d:NH)(t:Nat)(l:List Q_)(a6:f.length<=1048576)(a7:l.length<=1048576)(a8:jc f)
  (a9:∀r∈l,r.over=false->r.Zq≠0->IE f r) (hN:bT w a f) (R:cB w d l):
  Calls prog 28 #[.agg #[.slice a f.length m],.agg #[.slice p q s,.slice d l.length t]] w λe w'=>FY w.heap.size f l w' e/\K_ w w':=by
 obtain⟨c,v⟩:=aj ((w.alloc (.cells #[.slice a f.length m] 25)).alloc (.cells #[.slice p q s,.slice d l.length t] 32));have S:K_ w c:=by rw[v];exact (ah _ _).alloc _
 have b0:c.heap.size=w.heap.size+2:=by rw[v];simp
 have b1:c.cell? ⟨w.heap.size,0,none⟩=some (.slice a f.length m):=by rw[v,K_.cell (w:=w.alloc (.cells #[.slice a f.length m] 25)) (ah _ _) E9];exact X_ w _ _ 0 _ rfl
 have s0:c.cell? ⟨w.heap.size+1,0,none⟩=some (.slice p q s):=by have:=X_ (w.alloc (.cells #[.slice a f.length m] 25)) #[.slice p q s,.slice d l.length t] 32 0 _ rfl;rw[MS] at this;rw[v];exact this
 have s1:c.cell? ⟨w.heap.size+1,1,none⟩=some (.slice d l.length t):=by have:=X_ (w.alloc (.cells #[.slice a f.length m] 25)) #[.slice p q s,.slice d l.length t] 32 1 _ rfl;rw[MS] at this;rw[v];exact this
 have T:w.heap.size<c.heap.size:=E5;have I:w.heap.size+1<c.heap.size:=E5;have U:K_ c (c.alloc (.cells #[] 9)):=ah _ _;have V:Hid ((c.alloc (.cells #[] 9)).ownsRow c.heap.size 9 1 (.b c.heap.size 0 0) 0 (([]:List NG).map Value.string)):=ML c #[] 0 (Me _) (Mg _) rfl;have B:=Kz S;clear S b0;go_enter func28,ntmps28
 go_upto_region 1 with fail
 rw[<-v];clear v;go_wp2
 go_loopg [5,6] l.length (λgg x5 x6 wr=>∃(i:Nat) (h:List NG),x6= .a (i:Int)/\i+gg=l.length/\h.length<=i/\Hid (bU (Kk f) (Qq l) (l.take i) h)/\K_ c wr/\Hid (wr.ownsRow c.heap.size 9 1 x5 h.length (h.map Value.string)))
 case atStart=>exact⟨0,[],rfl,E5,Me _,Kz .nil,U,V⟩
 case round=>
  clear V U;obtain⟨i,h,rfl,hi,c4,J,j,C⟩:=hrel;obtain⟨W,X,rfl⟩:=ay C.o;have Y:=(j.cell T).trans b1;have Z:=(j.cell I).trans s0;have c2:=(j.cell I).trans s1;have y0:w.heap.size<wr.heap.size:=Mf T j.size;have L:w.heap.size+1<wr.heap.size:=Mf I j.size;by_cases b2:(i:Int)<(l.length:Int)
  .have D:i<l.length:=E5;obtain⟨b,o,xa,xc,rfl,n,k,hT,hx⟩:=(R.kept (B.o.trans j)) i D;obtain⟨r,E⟩:=aj (l.getD i Q_.zero);rw[<-E] at k hT;have b3:r∈l:=by rw[E];simp[List.getD,D]
   have M:=k 0 _ rfl;have t1:=k 1 _ rfl;have t2:=k 2 _ rfl;have t3:=k 3 _ rfl;have t4:=k 4 _ rfl;have t5:=k 5 _ rfl;have t6:=k 6 _ rfl;rw[M_] at M;have a0:=Kz E;clear k E;have a1:Hid (∀w',K_ wr w'->w'.cell? ⟨w.heap.size,0,none⟩=some (.slice a f.length m)/\w'.cell? ⟨w.heap.size+1,0,none⟩=some (.slice p q s)/\w'.cell? ⟨w.heap.size+1,1,none⟩=some (.slice (some ⟨b,o,none⟩) l.length t)/\w'.cell? ⟨b,o+i*7,none⟩=some (.string r.name)/\w'.cell? ⟨b,o+i*7+1,none⟩=some (.bool r.over)/\w'.cell? ⟨b,o+i*7+2,none⟩=some (.bool r.fail)/\w'.cell? ⟨b,o+i*7+3,none⟩=some (.string r.text)/\w'.cell? ⟨b,o+i*7+4,none⟩=some (.a r.at')/\w'.cell? ⟨b,o+i*7+5,none⟩=some (.a r.Zq)/\w'.cell? ⟨b,o+i*7+6,none⟩=some (.slice xa r.texts.length xc)):=λw' K=>⟨(K.cell y0).trans Y,(K.cell L).trans Z,(K.cell L).trans c2,(K.cell n).trans M,(K.cell n).trans t1,(K.cell n).trans t2,(K.cell n).trans t3,(K.cell n).trans t4,(K.cell n).trans t5,(K.cell n).trans t6⟩
   go_upto_region 5 with fail
   refine bC 7 a1.o λwd N z=>?_
   refine au 0 z ?_;refine ae 4 z ?_;refine ae 5 z ?_;refine ae 6 z ?_;refine aG 7 (λK F=>?_);go_simp
   go_at_call 68
   refine (zI wd a m f p q s (some ⟨b,o,none⟩) t l r xa xc a6 a7 a8 (a9 r b3) (hN.kept (B.o.trans (j.trans N))) (R.kept (B.o.trans (j.trans N)))).mono ?_;rintro e x ⟨O,k3⟩;have y:=N.trans k3;clear k3;rcases O.cases with⟨rfl,a2⟩|⟨rfl,a3⟩
   .dsimp only;refine af F (λA=>absurd rfl A) ?_;clear F K z;refine aF ?_;have HY:=Kz a2;clear a2 O M t1 t2 t3 t4 t5 t6 Y Z c2;obtain⟨u0,u1,u2,v0,_⟩:=a1.o _ y;have c5:=Nat.lt_of_lt_of_le n y.size;have c6:=Nat.lt_of_lt_of_le L y.size;have P:K_ x (x.alloc (.cells #[.string r.name] 9)):=ah _ _;have a4:=Kz (ak C.o (y.trans P));have KK:=Kz (j.trans (y.trans P));have b4:c.heap.size<=(x.alloc (.cells #[.string r.name] 9)).heap.size:=KK.out.size;have b5:Hid (∀G u,([.string r.name]:List NJ)[G]? =some u->(x.alloc (.cells #[.string r.name] 9)).cell? ((⟨x.heap.size,0,none⟩:Addr).add G)=some u):=λG u H=>by rw[Addr.add_mid];exact X_ x #[.string r.name] 9 G u H
    have b6:Hid (∀u∈([.string r.name]:List NJ),u.oneCell'=true):=λu H=>by simp only[Na,Nb,or_false] at H;subst H;rfl
    have c7:h.length<=1048576:=E5;have c8:(i:Int)<(l.length:Int):=b2;obtain⟨ic,b7,b8,b9,c0⟩:=aU Tryz.eD;clear P;go_wp2_with (at_builtin;refine wpList_append_own _ rfl (.tmp 23) (.tmp 30) 26 rfl c.heap.size 9 ic _ 1 16 underlying26 b7 b8 b9 c0 rfl E8 (.slice W h.length X) h.length (h.map Value.string) rfl a4.o ⟨x.heap.size,0,none⟩ 1 1 [.string r.name] rfl rfl b5.o b6.o F5 E5 b4 ?_;intro v' w6 Q a5 _;have KP:=aK KK.out (Me _) a4.o a5;have HP:=Kz Q;obtain⟨c9,d0,rfl⟩:=ay Q;clear Q a5)
    go_roundg (gk-1)
    case measure=>omega
    case rel=>exact⟨i+1,h++ [r.name],F3,E5,by rw[MU];show h.length+1<=i+1;omega,Kz (by rw[yU D,<-a0.o];exact J.o.yes HY.o),KP,Kz (by rw[Ny,MU];exact HP.o)⟩
   .dsimp only;refine af F (λA=>absurd rfl A) ?_;clear F K z;refine aF ?_;have c1:=Kz a3;clear a3 O;go_wp2
    go_roundg (gk-1)
    case measure=>omega
    case rel=>exact⟨i+1,h,F3,E5,E5,Kz (by rw[yU D,<-a0.o];exact J.o.no c1.o),j.trans y,Kz (ak C.o y)⟩
  .have c3:i=l.length:=E5;have HT:=Kz (dM (base':=w.heap.size) C.o B.o.size);go_wp2
   go_ret
   refine⟨⟨W,X,h,rfl, ?_,HT.o⟩,B.o.trans j⟩;have A:=J.o;rw[c3,MN] at A;exact A
theorem lL(l:List Xz)(x:Xz):aL (l++ [x])=aL l++if x.fail=true then [] else [x.text]:=by
 unfold aL;rw[List.filter_append,Ny];cases a:x.fail <;> simp[a]
def Ij(xs:List Xz)(w':NI)(e:Ending):Prop:=∃(g c:Nat),e= .returned (.b g (aL xs).length c)/\Strs w' (some ⟨g,0,none⟩) (aL xs)
theorem v_(w:NI)(d:NH)(G:Nat)(a:List Xz)(a1:a.length<=1000)(H:fw w d a):
  Calls prog 124 #[.slice d a.length G] w λe w'=>Ij a w' e/\K_ w w':=by
 have v:K_ w (w.alloc (.cells #[] 9)):=ah _ _;have y:Hid ((w.alloc (.cells #[] 9)).ownsRow w.heap.size 9 1 (.b w.heap.size 0 0) 0 (([]:List NG).map Value.string)):=ML w #[] 0 (Me _) (Mg _) rfl;go_enter func124,ntmps124
 go_wp2
 go_loopg [3,4] a.length (λI J K wr=>∃(i:Nat) (g b:Nat),J= .b g (aL (a.take i)).length b/\K= .a (i:Int)/\i+I=a.length/\(aL (a.take i)).length<=i/\K_ w wr/\Hid (wr.ownsRow w.heap.size 9 1 (.b g (aL (a.take i)).length b) (aL (a.take i)).length ((aL (a.take i)).map Value.string)))
 case atStart=>exact⟨0,w.heap.size,0,rfl,rfl,E5,Me _,v,y⟩
 case round=>
  clear y v;obtain⟨i,g,b,rfl,rfl,hi,L,h,f⟩:=hrel;by_cases a2:(i:Int)<(a.length:Int)
  .have p:i<a.length:=E5;obtain⟨a3,o,rfl,hb,j⟩:=(H.kept h) i p;obtain⟨x,q⟩:=aj (a.getD i Xz.zero);rw[<-q] at j;have r:=j 0 _ rfl;have t1:=j 1 _ rfl;rw[M_] at r;have k:Hid (a.take (i+1)=a.take i++ [x]):=by show _=_;rw[Ml p,q];simp[List.getD,p]
   obtain⟨c,s⟩:=aj (aL (a.take i));rw[<-s] at L f⊢;have z:=Kz s;clear j q s;cases l:x.fail
   .rw[l] at r;have t:K_ wr (wr.alloc (.cells #[.string x.text] 9)):=ah _ _;have A:=Kz (ak f.o t);have B:=Kz (h.trans t);have M:w.heap.size<=(wr.alloc (.cells #[.string x.text] 9)).heap.size:=B.out.size;have N:Hid (∀m u,([.string x.text]:List NJ)[m]? =some u->(wr.alloc (.cells #[.string x.text] 9)).cell? ((⟨wr.heap.size,0,none⟩:Addr).add m)=some u):=λm u n=>by rw[MZ];exact X_ wr #[.string x.text] 9 m u n
    have O:Hid (∀u∈([.string x.text]:List NJ),u.oneCell'=true):=λu n=>by simp only[Na,Nb,or_false] at n;subst n;rfl
    obtain⟨P,Q,R,S,T⟩:=aU Tryz.eD;clear t;go_wp2_with (at_builtin;refine wpList_append_lies _ rfl (.tmp 18) (.tmp 24) 26 rfl w.heap.size 9 P _ 1 16 underlying26 Q R S T rfl E8 (.b g c.length b) c.length (c.map Value.string) rfl A.o ⟨wr.heap.size,0,none⟩ 1 1 [.string x.text] rfl rfl N.o O.o E5 F5 E5 M _ rfl ?_;intro U V w6 C D W X;have Y:=aK B.out (Me _) A.o D;have Z:=Kz C;clear C D W X)
    go_roundg (gk-1)
    case measure=>omega
    case rel=>
     have e:aL (a.take (i+1))=c++ [x.text]:=by rw[k.o,lL,<-z.o,l];rfl
     exact⟨i+1,U,V,by rw[e,MU];rfl,F3,E5,by rw[e,MU];show c.length+1<=i+1;omega,Y,Kz (by rw[e,Ny,MU];exact Z.o)⟩
   .rw[l] at r;go_wp2
    go_roundg (gk-1)
    case measure=>omega
    case rel=>
     have e:aL (a.take (i+1))=c:=by rw[k.o,lL,<-z.o,l];simp
     exact⟨i+1,g,b,by rw[e],F3,E5,by rw[e];omega,h,Kz (by rw[e];exact f.o)⟩
  .have a0:i=a.length:=E5;have e:aL (a.take i)=aL a:=by rw[a0,MN]
   rw[e] at f⊢;obtain⟨d2,c2,E,a4,F⟩:=uP f.o;simp only[MW,true_and] at E;obtain⟨rfl,rfl⟩:=E;have k:=Kz F;clear F e;go_wp2
   go_ret
   exact⟨⟨g,b,rfl,k.o⟩,h⟩
theorem Tryz.fE :(prog.info? 40).map (·.size)=some 7:=F4
theorem mJ{b o n:Nat}{cs:List NJ}(h:w.rangeAt b 0 cs)(d:Row w b n)(f:o<n)(v:NJ):(w.setCell ⟨b,o,none⟩ v).rangeAt b 0 (cs.set o v):=by
 intro j u a;rw[MM];rw[List.getElem?_set] at a;by_cases e:o=j
 .subst e;rw[Nt rfl] at a;by_cases c:o<cs.length
  .rw[Nt c] at a;cases a;exact aW d f _
  .rw[Nu c] at a;cases a
 .rw[Nu e] at a;rw[Xk e];have:=h j u a;rw[MM] at this;exact this
structure jM (w:NI) (b:Nat) (r:Q_) (xa:NH) (xc:Nat):Prop where
 row:aD w b 40 7
 rng:w.rangeAt b 0 (r.cells xa xc)
variable {xc : Nat} {xa : NH} {r : Q_}
theorem jM.all{b:Nat}(h:jM w b r xa xc):w.cell? ⟨b,0,none⟩=some (.string r.name)/\w.cell? ⟨b,1,none⟩=some (.bool r.over)/\w.cell? ⟨b,2,none⟩=some (.bool r.fail)/\w.cell? ⟨b,3,none⟩=some (.string r.text)/\w.cell? ⟨b,4,none⟩=some (.a r.at')/\w.cell? ⟨b,5,none⟩=some (.a r.Zq)/\w.cell? ⟨b,6,none⟩=some (.slice xa r.texts.length xc):=by
 have a:∀j v,(r.cells xa xc)[j]? =some v->w.cell? ⟨b,j,none⟩=some v:=λj v f=>by have:=h.rng j v f;rw[MM] at this;exact this
 exact⟨a 0 _ rfl,a 1 _ rfl,a 2 _ rfl,a 3 _ rfl,a 4 _ rfl,a 5 _ rfl,a 6 _ rfl⟩
theorem jM.kept{w':NI}{b:Nat}(h:jM w b r xa xc)(k:K_ w w'):jM w' b r xa xc:=⟨h.row.kept k,k.range h.row.lt h.rng⟩
theorem jM.put{b:Nat}{c:Q_}{xa':NH}{xc' o:Nat}(h:jM w b r xa xc)(d:o<7)(e:c.cells xa' xc'= (r.cells xa xc).set o v):jM (w.setCell ⟨b,o,none⟩ v) b c xa' xc':=⟨h.row.set _,by rw[e];exact mJ h.rng h.row.row d v⟩
def eX(n0:Nat)(w:NI)(c:Nat)(a:NH)(l:List NG):Prop:=∀i,i<l.length->∃b o,a=some ⟨b,o,none⟩/\b<w.heap.size/\(b<n0\/c+2<=b)/\w.cell? ⟨b,o+i,none⟩=some (.string (l.getD i ByteArray.empty))
variable {c n0 : Nat} {a : NH}
theorem eX.strs(h:eX n0 w c a l):Strs w a l:=λi d=>by
 obtain⟨b,o,e,f,_,j⟩:=h i d;exact⟨b,o,e,f,j⟩
theorem eX.kept{w':NI}(h:eX n0 w c a l)(k:K_ w w'):eX n0 w' c a l:=λi d=>by
 obtain⟨f,o,e,b,j,m⟩:=h i d;exact⟨f,o,e,Mf b k.size,j,(k.cell b).trans m⟩
theorem eX.set{p:Nat}(m:n0<=c)(h:eX n0 w c a l)(v:NJ):eX n0 (w.setCell ⟨c,p,none⟩ v) c a l:=λi d=>by
 obtain⟨b,o,e,f,j,k⟩:=h i d;exact⟨b,o,e,by rw[size_setCell];exact f,j,by rw[Zj E5];exact k⟩
theorem eX.set1{p:Nat}(m:n0<=c)(h:eX n0 w c a l)(v:NJ):eX n0 (w.setCell ⟨c+1,p,none⟩ v) c a l:=λi d=>by
 obtain⟨b,o,e,f,j,k⟩:=h i d;exact⟨b,o,e,by rw[size_setCell];exact f,j,by rw[Zj E5];exact k⟩
theorem eX.sets(b:n0<=c):∀(vs:List NJ) (p:Nat) {w:NI},eX n0 w c a l->eX n0 (w.setCells (c+1) p vs) c a l
 | [],_,_,h=>h
 | v :: r,p,_,h=>by rw[World.setCells];exact eX.sets b r (p+1) (h.set1 b v)
theorem eX.old{w':NI}(h:Strs w a l)(k:K_ w w')(m:w.heap.size<=n0):eX n0 w' c a l:=λi d=>by
 obtain⟨f,o,e,b,j⟩:=h i d;exact⟨f,o,e,Mf b k.size,E5,(k.cell b).trans j⟩
theorem eX.owned{base:Nat}{t:TypeId}{n:Nat}(h:w.ownsRow base t 1 v n (l.map Value.string))(m:c+2<=base):∃a b,v= .slice a l.length b/\eX n0 w c a l/\(a=none->b=0):=by
 have f:n=l.length:=by have:=h.1;simp at this;omega
 subst f;rcases h.2 with⟨rfl,j⟩|⟨g,b,p,rfl,q,k,r,_,_,_⟩
 .exact⟨none,0,by rw[j],(λi d=>E5),λ_=>rfl⟩
 .refine⟨_,b,rfl,(λi d=>⟨g,0,rfl,aN k,E5, ?_⟩),λe=>by cases e⟩;have:=h.cells (g:=g) rfl i (.string (l.getD i ByteArray.empty)) (by simp[List.getD,d]);rw[MZ] at this;exact this
structure NSt (n0:Nat) (w wr:NI) (ab:Nat) (cost:Int) (sa:NH) (sn sc:Nat) (r:Q_) (xa:NH) (xc:Nat):Prop where
 kw:K_ w wr
 box:jM wr (w.heap.size+2) r xa xc
 res:aD wr (w.heap.size+2+1) 40 7
 a0:wr.cell? ⟨ab,0,none⟩=some (.a cost)
 a1:wr.cell? ⟨ab,1,none⟩=some (.slice sa sn sc)
 abl:w.heap.size+4<=ab
 abz:ab<wr.heap.size
 low:n0<=w.heap.size
 txt:eX n0 wr (w.heap.size+2) xa r.texts
 nil:xa=none->xc=0
section
variable {n0 : Nat} {w wr w' : NI} {ab : Nat} {cost : Int} {sa : NH} {sn sc : Nat} {r r' : Q_} {xa xa' : NH} {xc xc' : Nat}
theorem NSt.kept(h:NSt n0 w wr ab cost sa sn sc r xa xc)(k:K_ wr w'):NSt n0 w w' ab cost sa sn sc r xa xc:=
 ⟨h.kw.trans k,h.box.kept k,h.res.kept k,(k.cell h.abz).trans h.a0,(k.cell h.abz).trans h.a1,h.abl,Mf h.abz k.size,h.low,h.txt.kept k,h.nil⟩
theorem NSt.Lp(h:NSt n0 w wr ab cost sa sn sc r xa xc){o:Nat}(b:o<7)(e:r'.cells xa' xc'= (r.cells xa xc).set o v)(c:eX n0 wr (w.heap.size+2) xa' r'.texts)(d:xa'=none->xc'=0):NSt n0 w (wr.setCell ⟨w.heap.size+2,o,none⟩ v) ab cost sa sn sc r' xa' xc':=by
 have a:ab≠w.heap.size+2:=by have:=h.abl;omega
 have f:w.heap.size+2+1≠w.heap.size+2:=E5;exact⟨Below.setCell h.kw (p:=⟨w.heap.size+2,o,none⟩) (by show w.heap.size<=w.heap.size+2;omega) v,h.box.put b e,h.res.block (Below.heap_setCell _ _ _ _ f),by rw[Zj a];exact h.a0,by rw[Zj a];exact h.a1,h.abl,by rw[size_setCell];exact h.abz,h.low,c.set (by have:=h.low;omega) v,d⟩
theorem NSt.put(h:NSt n0 w wr ab cost sa sn sc r xa xc){o:Nat}(b:o<7)(e:r'.cells xa xc= (r.cells xa xc).set o v)(c:r'.texts=r.texts):NSt n0 w (wr.setCell ⟨w.heap.size+2,o,none⟩ v) ab cost sa sn sc r' xa xc:=
 h.Lp b e (by rw[c];exact h.txt) h.nil
end
theorem NSt.made{b c:NI}{a:Nat}{cost:Int}{e:NH}{f h:Nat}(k:K_ w b)(v:b.heap.size=w.heap.size+4)(K:K_ b c)(m:jM b (w.heap.size+2) r xa xc)(n:aD b (w.heap.size+2+1) 40 7)(q:n0<=w.heap.size)(s:eX n0 b (w.heap.size+2) xa r.texts)(t:xa=none->xc=0)(j:b.heap.size<=a)(i:aD c a 73 2):
  K_ b ((c.setCell ⟨a,0,none⟩ (.a cost)).setCell ⟨a,1,none⟩ (.slice e f h))/\NSt n0 w ((c.setCell ⟨a,0,none⟩ (.a cost)).setCell ⟨a,1,none⟩ (.slice e f h)) a cost e f h r xa xc:=by
 have d:K_ b ((c.setCell ⟨a,0,none⟩ (.a cost)).setCell ⟨a,1,none⟩ (.slice e f h)):=Below.setCell (Below.setCell K (p:=⟨a,0,none⟩) j _) (p:=⟨a,1,none⟩) j _;refine⟨d,k.trans d,m.kept d,n.kept d,(Xk E5 _).trans (aW i.row E5 _),aW (i.set _).row E5 _,E5, ?_,q,s.kept d,t⟩;rw[size_setCell,size_setCell];exact i.lt
def vI(n0 c:Nat)(W:dA)(σ:Env)(r:Q_)(w':NI)(e:Ending):Prop:=
 ∃(xa':NH) (xc':Nat) (ka:NH) (kc:Nat),e= .returned (.tuple #[.agg ((Xx W σ r).1.cells xa' xc').toArray,.slice ka (Xx W σ r).2.length kc])/\eX n0 w' c xa' (Xx W σ r).1.texts/\(xa'=none->xc'=0)/\eX n0 w' c ka (Xx W σ r).2
theorem bA{g:Nat}(a:w.heap.size<=g):∀(vs:List NJ) (o:Nat) {u:NI},K_ w u->K_ w (u.setCells g o vs)
 | [],_,_,h=>h
 | v :: r,o,_,h=>by rw[World.setCells];exact bA a r (o+1) (Below.setCell h (p:=⟨g,o,none⟩) a v)
theorem NSt.ends{W:dA}{σ:Env}{wr:NI}{i:Nat}{cost:Int}{j:NH}{k l:Nat}{a:Q_}{asks:List NG}{b:NH}{d f:Nat}{e:Ending}(h:NSt n0 w wr i cost j k l a xa xc)(c:Xx W σ r= (a,asks))(m:eX n0 wr (w.heap.size+2) b asks)(n:d=asks.length)
 (p:e= .returned (.tuple #[.agg (a.cells xa xc).toArray,.slice b d f])):vI n0 (w.heap.size+2) W σ r (wr.setCells (w.heap.size+2+1) 0 (a.cells xa xc)) e/\K_ w (wr.setCells (w.heap.size+2+1) 0 (a.cells xa xc)):=by
 refine⟨⟨xa,xc,b,f, ?_, ?_,h.nil, ?_⟩,bA E5 _ _ h.kw⟩
 .rw[c,p,n]
 .rw[c];exact h.txt.sets (by have:=h.low;omega) _ _
 .rw[c];exact m.sets (by have:=h.low;omega) _ _
theorem Tryz.si :(prog.info? 40).map (λi=>(i.zero,i.size,i.bytes))=some (some (.agg #[.string ⟨#[]⟩,.bool false,.bool false,.string ⟨#[]⟩,.a 0,.a 0,M0]),7,80):=F4
def mX(w:NI)(P:Nat->Prop)(a:NH)(l:List Q_):Prop:=
 ∀i,i<l.length->∃b o xa xc,a=some ⟨b,o,none⟩/\b<w.heap.size/\w.rangeAt b (o+i*7) ((l.getD i Q_.zero).cells xa xc)/\Strs w xa (l.getD i Q_.zero).texts/\(xa=none->xc=0)/\(∀ad:Addr,xa=some ad->P ad.block)
variable {l : List Q_} {P : Nat -> Prop} {a : NH} {w w' : NI}
theorem mX.kept(h:mX w P a l)(k:K_ w w'):mX w' P a l:=by
 intro i c;obtain⟨d,o,e,f,j,b,m,n,p⟩:=h i c;exact⟨d,o,e,f,j,Mf b k.size,k.range b m,n.kept k,p⟩
theorem mX.runs(h:mX w P a l):cB w a l:=by
 intro i c;obtain⟨b,o,d,f,e,j,k,m,n,_⟩:=h i c;exact⟨b,o,d,f,e,j,k,m,n⟩
theorem cB.all(h:cB w a l):mX w (λ_=>True) a l:=by
 intro i c;obtain⟨b,o,d,f,e,j,k,m,n⟩:=h i c;exact⟨b,o,d,f,e,j,k,m,n,λ_ _=>trivial⟩
def bD(w:NI)(P:Nat->Prop)(xs:List NJ)(l:List Q_):Prop:=xs.length=l.length*7/\∀i,i<l.length->∃xa xc,(xs.drop (i*7)).take 7= (l.getD i Q_.zero).cells xa xc/\Strs w xa (l.getD i Q_.zero).texts/\(xa=none->xc=0)/\(∀ad:Addr,xa=some ad->P ad.block)
theorem bD.nil(w:NI)(P:Nat->Prop):bD w P [] []:=⟨rfl,λi a=>by simp at a⟩
variable {xs : List NJ}
theorem bD.kept(h:bD w P xs l)(k:K_ w w'):bD w' P xs l:=⟨h.1,λi a=>by obtain⟨b,c,d,e,f⟩:=h.2 i a;exact⟨b,c,d,e.kept k,f⟩⟩
theorem bD.snoc{r:Q_}{xa:NH}{xc:Nat}(h:bD w P xs l)(e:Strs w xa r.texts)(f:xa=none->xc=0)(j:∀ad:Addr,xa=some ad->P ad.block):bD w P (xs++r.cells xa xc) (l++ [r]):=by
 refine⟨by simp[h.1,Q_.cells];omega,λi c=>?_⟩;rw[MU] at c;simp only[MX,List.length_nil] at c;by_cases d:i<l.length
 .have a:(l++ [r]).getD i Q_.zero=l.getD i Q_.zero:=by simp[List.getD,Ni d]
  have b:((xs++r.cells xa xc).drop (i*7)).take 7= (xs.drop (i*7)).take 7:=by
   rw[List.drop_append_of_le_length (by rw[h.1];omega),List.take_append_of_le_length (by rw[List.length_drop,h.1];omega)]
  rw[a,b];exact h.2 i d
 .obtain rfl:i=l.length:=E5;have a:(l++ [r]).getD l.length Q_.zero=r:=I9;have b:((xs++r.cells xa xc).drop (l.length*7)).take 7=r.cells xa xc:=by
   rw[<-h.1,List.drop_left]
   rfl
  rw[a,b];exact⟨xa,xc,rfl,e,f,j⟩
variable {base n : Nat}
theorem bD.runs{v:NJ}(b:w'.ownsRow base 40 7 v n xs)(h:bD w P xs l)(k:K_ w w'):n=l.length/\∃a c,v= .slice a l.length c/\mX w' P a l:=by
 have p:n=l.length:=by have A:=b.1;have B:=h.1;omega
 subst p;refine⟨rfl, ?_⟩;rcases b.2 with⟨rfl,q⟩|⟨g,c,C,rfl,D,r,E,_,_,_⟩
 .exact⟨none,0,by rw[q],λi d=>E5⟩
 .refine⟨_,c,rfl,λi d=>?_⟩;obtain⟨s,t,e,x,y⟩:=h.2 i d;refine⟨g,0,s,t,rfl,aN r,(λj u f=>?_),x.kept k,y⟩;have z:j<7:=by have:=(Mk.1 f).1;simpa[Q_.cells] using this
  have m:((xs.drop (i*7)).take 7)[j]? =some u:=by rw[e];exact f
  rw[List.getElem?_take,Nt z,List.getElem?_drop] at m;have:=b.cells (g:=g) rfl _ _ m;rw[MZ] at this;rw[MM] at this⊢;exact this
theorem FD{c p:Nat}{t:TypeId}{v u:NJ}{l:List NG}(h:w.ownsRow base t 1 v n (l.map Value.string))(r:c<base):∃a b,v= .slice a l.length b/\Strs (w.setCell ⟨c,p,none⟩ u) a l/\(a=none->b=0)/\(∀d:Addr,a=some d->base<=d.block):=by
 have j:n=l.length:=by have:=h.1;simp at this;omega
 subst j;rcases h.2 with⟨rfl,k⟩|⟨g,b,s,rfl,m,q,x,_,_,_⟩
 .exact⟨none,0,by rw[k],(λi f=>E5),(λ_=>rfl),λd e=>by cases e⟩
 .refine⟨_,b,rfl,(λi f=>⟨g,0,rfl,by rw[size_setCell];exact aN q, ?_⟩),(λe=>by cases e),λd e=>by cases e;exact m⟩;have:=h.cells (g:=g) rfl i (.string (l.getD i ByteArray.empty)) (by simp[List.getD,f]);rw[MZ] at this;rw[Zj E5];exact this
def Kt(w2 wr:NI)(P:Nat->Prop)(out:NJ)(p:List Q_×Bool):Prop:=∃xs,wr.ownsRow w2.heap.size 40 7 out p.1.length xs/\bD w2 P xs p.1/\K_ w2 wr
def Iu(w w':NI)(P:Nat->Prop)(v:NJ)(l:List Q_):Prop:=∃w2 xs,K_ w w2/\K_ w2 w'/\w'.ownsRow w2.heap.size 40 7 v l.length xs/\bD w2 P xs l
structure KnX (wz wr:NI) (kb:Nat) (a:NH) (n cap:Nat) (R:List Q_) (d:NH) (dc:Nat) (xs:List NJ):Prop where
 kw:K_ wz wr
 known:gQ wr kb a n cap d R.length dc
 own:wr.ownsRow wz.heap.size 40 7 (.slice d R.length dc) R.length xs
 pack:bD wz (λ_=>True) xs R
variable {R : List Q_} {cap dc kb : Nat} {d : NH} {wr wz : NI}
theorem KnX.kept(h:KnX wz wr kb a n cap R d dc xs)(k:K_ wr w'):KnX wz w' kb a n cap R d dc xs:=
 ⟨h.kw.trans k,h.known.kept k,ak h.own k,h.pack⟩
theorem KnX.runs(h:KnX wz wr kb a n cap R d dc xs):cB wr d R:=by
 obtain⟨_,e,f,b,c⟩:=bD.runs h.own h.pack h.kw;simp only[MW,true_and] at b;rw[b.1];exact c.runs
theorem own_ne{v:NJ}(b:aD w kb 86 2)(h:w.ownsRow base 40 7 v n xs):some kb≠v.ownBlock:=by
 rcases h.2 with⟨rfl,_⟩|⟨g,d,f,rfl,_,c,_⟩
 .intro e;cases e
 .intro e;simp only[Value.ownBlock,MV] at e;subst e;obtain⟨i,a,_⟩:=b;rw[c] at a;simp only[MV,Obj.cells.injEq] at a;exact Nv a.2.1 E8
theorem KnX.block{W e:NI}(h:KnX wz wr kb a n cap R d dc xs)(c:K_ wr W)(f:W.grownBy e (Value.slice d R.length dc).ownBlock):e.heap[kb]? =W.heap[kb]? :=
 f.block kb (h.known.kept c).row.lt (own_ne (h.known.kept c).row (ak h.own c))
theorem KnX.grown{W c:NI}(h:KnX wz wr kb a n cap R d dc xs)(b:K_ wr W)(i:W.grownBy c (Value.slice d R.length dc).ownBlock):K_ wz c/\gQ c kb a n cap d R.length dc:=by
 have e:=h.block b i;have f:=h.known.kept b;exact⟨aK (h.kw.trans b) (Me _) (ak h.own b) i,f.row.block e,(Mt (w:=W) e).trans f.web,(Mt (w:=W) e).trans f.runs⟩
theorem yV{size:Nat}{e:TypeId}{v:NJ}(h:w.ownsRow base e size v n xs){o:Nat}(a:some kb≠v.ownBlock)(u:NJ):(w.setCell ⟨kb,o,none⟩ u).ownsRow base e size v n xs:=by
 refine⟨h.1, ?_⟩;rcases h.2 with b|⟨g,c,d,rfl,f,i,rest⟩
 .exact .inl b
 .refine .inr ⟨g,c,d,rfl,f, ?_,rest⟩;rw[Below.heap_setCell _ _ _ _ (λe=>a (by simp[Value.ownBlock,e]))];exact i
theorem KnX.next{W c:NI}{e:Nat}{f:NH}{y:Q_}{xa:NH}{xc:Nat}(h:KnX wz wr kb a n cap R d dc xs)(k:wz.heap.size<=kb)(l:K_ wr W)(m:W.grownBy c (Value.slice d R.length dc).ownBlock)
 (i:c.ownsRow wz.heap.size 40 7 (.slice f (R.length+1) e) (R.length+1) (xs++y.cells xa xc)) (q:Strs wz xa y.texts) (r:xa=none->xc=0):
  KnX wz (c.setCell ⟨kb,1,none⟩ (.slice f (R.length+1) e)) kb a n cap (R++ [y]) f e (xs++y.cells xa xc):=by
 obtain⟨s,b⟩:=h.grown l m;have j:(R++ [y]).length=R.length+1:=E9;refine⟨Below.setCell s (p:=⟨kb,1,none⟩) k _,⟨b.row.set _, ?_, ?_⟩, ?_,h.pack.snoc q r (λ_ _=>trivial)⟩
 .rw[Xk E5];exact b.web
 .rw[j];exact aW b.row.row E5 _
 .rw[j];exact yV i (own_ne b.row i) _
theorem vG(W:dA):∀(bs:List NG) (l:List Q_) (n:NG),bN W l (bs++ [n])=if (W n).isSome=true/\(Qq (bN W l bs) n).isNone=true then bN W l bs++ [Q_.fresh n] else bN W l bs
 | [],_l,_n=>rfl
 | _b :: bs,_l,n=>vG W bs _ n
theorem xx(W:dA)(l:List Q_){a:List NG}{k:Nat}(h:k<a.length):bN W l (a.take (k+1))=if (W (a.getD k ByteArray.empty)).isSome=true/\(Qq (bN W l (a.take k)) (a.getD k ByteArray.empty)).isNone=true then bN W l (a.take k)++ [Q_.fresh (a.getD k ByteArray.empty)] else bN W l (a.take k):=by
 rw[Ml h,vG];simp[List.getD,h]
theorem mh(W:dA):∀(bs:List NG) (l:List Q_),(bN W l bs).length<=l.length+bs.length
 | [],l=>by simp[bN]
 | b :: bs,l=>by
  have h:=mh W bs (if (W b).isSome=true/\(Qq l b).isNone=true then l++ [Q_.fresh b] else l);show (bN W (if (W b).isSome=true/\(Qq l b).isNone=true then l++ [Q_.fresh b] else l) bs).length<=_
  split at h <;> rename_i hc
  .rw[Nt hc];simp at h⊢;omega
  .rw[Nu hc];simp at h⊢;omega
theorem rH(w:NI)(a:NH)(c:Nat)(l:List Qz)(b:NG)(d:l.length<=1048576)(f:bT w a l)(h:(Kk l b).isSome=true):
  Calls prog 37 #[.agg #[.slice a l.length c],.string b] w λe w'=>(∃r:Nat,e= .returned (.a (r:Int)))/\K_ w w':=by
 refine (fF w a c l b d f).mono ?_;rintro e w' ⟨⟨r,rfl,i⟩,k⟩;rcases i with⟨j,_,rfl,_⟩|⟨_,m⟩
 .exact⟨⟨j,rfl⟩,k⟩
 .rw[m] at h;cases h
theorem Bh(w:NI)(a:NH)(c:Nat)(l:List Qz)(b:NG)(f:l.length<=1048576)(i:bT w a l)(h:¬(Kk l b).isSome=true):
  Calls prog 37 #[.agg #[.slice a l.length c],.string b] w λe w'=>e= .returned (.a (-1))/\K_ w w':=by
 refine (fF w a c l b f i).mono ?_;rintro e w' ⟨⟨r,rfl,j⟩,k⟩;rcases j with⟨m,_,rfl,d,_⟩|⟨rfl,d⟩
 .rw[d] at h;exact Nv rfl h
 .exact⟨rfl,k⟩
theorem Cb(w:NI)(b:Nat)(a:NH)(n f:Nat)(d:NH)(h:Nat)(l:List Q_)(c:NG)(j:l.length<=1048576)(k:gQ w b a n f d l.length h)(m:cB w d l)(i:(Qq l c).isNone=true):
  Calls prog 86 #[.c b,.string c] w λe w'=>(∃r:Int,e= .returned (.a r)/\r<0)/\w'=w:=by
 refine (GZ w b a n f d h l c j k m).mono ?_;rintro e w' ⟨⟨r,rfl,p⟩,q⟩;rcases p with⟨t,_,rfl,s,_⟩|⟨rfl,_⟩
 .rw[s] at i;cases i
 .exact⟨⟨-1,rfl,E5⟩,q⟩
theorem B_(w:NI)(b:Nat)(a:NH)(n f:Nat)(d:NH)(h:Nat)(l:List Q_)(c:NG)(j:l.length<=1048576)(k:gQ w b a n f d l.length h)(m:cB w d l)(i:¬(Qq l c).isNone=true):
  Calls prog 86 #[.c b,.string c] w λe w'=>(∃r:Nat,e= .returned (.a (r:Int)))/\w'=w:=by
 refine (GZ w b a n f d h l c j k m).mono ?_;rintro e w' ⟨⟨r,rfl,p⟩,q⟩;rcases p with⟨s,_,rfl,_⟩|⟨_,t⟩
 .exact⟨⟨s,rfl⟩,q⟩
 .rw[t] at i;exact Nv rfl i
theorem qA{l a:List NG}(c:l.length=a.length)(h:∀j,j<l.length->l.getD j ByteArray.empty=a.getD j ByteArray.empty):l=a:=by
 refine List.ext_getElem c λi b f=>?_
 have:=h i b;simpa[List.getD,b,f] using this
theorem jg(w:NI)(a q:NH)(c y:Nat)(l b:List NG)(K:l.length<=1048576)(_hl':b.length<=1048576)(z:Strs w a l)(A:Strs w q b):
  Calls prog 72 #[.slice a l.length c,.slice q b.length y] w λe w'=>e= .returned (.bool (decide (l=b)))/\K_ w w':=by
 go_enter func72,ntmps72
 by_cases h:l.length=b.length
 .have B:((l.length:Int) == (b.length:Int))=true:=by simp[h]
  have C:(l.length:Int)= (b.length:Int):=E5;go_wp2
  go_loopw [5] (λi wr=>∃k:Nat,k<=l.length/\i= .a k/\Hid (∀j,j<k->l.getD j ByteArray.empty=b.getD j ByteArray.empty)/\K_ w wr) (λi _=>l.length-(intOf i).toNat)
  case atStart=>exact⟨0,Mg _,rfl,Kz λj m=>aO m,K_.refl _⟩
  case round=>
   obtain⟨k,L,rfl,r,d⟩:=hrel;by_cases D:k<l.length
   .obtain⟨M,o,rfl,N,E⟩:=z.kept d k D;obtain⟨O,P,rfl,Q,F⟩:=A.kept d k E5;have R:(k:Int)<(l.length:Int):=E5;have S:(k:Int)<(b.length:Int):=E5;obtain⟨G,n⟩:=aj (l.getD k ByteArray.empty);obtain⟨H,p⟩:=aj (b.getD k ByteArray.empty);rw[<-n] at E;rw[<-p] at F;have⟨s,t⟩:=aH n p;clear n p;cases v:(G.toList == H.toList)
    .go_upto_region 6 with fail
     go_quiet (fail)
     go_wp2
     go_ret
     have f:¬l=b:=λe=>by
      have x:=kD v;rw[s.o,t.o,e] at x;exact x rfl
     exact⟨by rw[decide_eq_false f];rfl,d.drewN _⟩
    .go_upto_region 6 with fail
     go_quiet (fail)
     go_wp2
     go_roundw
     case rel=>
      refine⟨k+1,E5,F3,Kz λj m=>?_,d.drewN _⟩;by_cases e:j=k
      .rw[e,<-s.o,<-t.o];exact fA v
      .exact r.o j E5
     case measure=>simp[intOf];omega
   .go_wp2
    go_ret
    have I:l=b:=qA h λj m=>r.o j E5
    exact⟨by rw[decide_eq_true I];rfl,d⟩
 .have B:((l.length:Int) == (b.length:Int))=false:=F6;have C:¬(l.length:Int)= (b.length:Int):=E5;have f:¬l=b:=λe=>h (by rw[e])
  have J:=Kz f;clear f;go_wp2
  go_ret
  exact⟨by rw[decide_eq_false J.o];rfl,K_.refl _⟩
theorem Cw(w:NI)(r a:Q_)(xa xa':NH)(xc xc':Nat)(t:r.texts.length<=1048576)(v:a.texts.length<=1048576)(x:Strs w xa r.texts)(y:Strs w xa' a.texts):
  Calls prog 73 #[.agg #[.string r.name,.bool r.over,.bool r.fail,.string r.text,.a r.at',.a r.Zq,.slice xa r.texts.length xc],.agg #[.string a.name,.bool a.over,.bool a.fail,.string a.text,.a a.at',.a a.Zq,.slice xa' a.texts.length xc']] w λe w'=>(∃b,e= .returned (.bool b)/\(b=true↔r=a))/\K_ w w':=by
 obtain⟨z,d,f,A,j,k,B⟩:=r;obtain⟨C,n,p,D,l,m,E⟩:=a;dsimp only at t v x y⊢;have c:K_ w ((w.alloc (.cells #[.string z,.bool d,.bool f,.string A,.a j,.a k,.slice xa B.length xc] 40)).alloc (.cells #[.string C,.bool n,.bool p,.string D,.a l,.a m,.slice xa' E.length xc'] 40)):=(ah _ _).alloc _;go_enter func73,ntmps73
 cases F:(z.toList == C.toList)
 .go_wp2
  go_ret
  exact⟨⟨false,rfl,by simp[kD F]⟩,c⟩
 .have H:=Kz (fA F);by_cases q:d=n
  .subst q;have I:(d == d)=true:=E9;by_cases s:f=p
   .subst s;have J:(f == f)=true:=E9;cases G:(A.toList == D.toList)
    .go_wp2
     go_ret
     exact⟨⟨false,rfl,by simp[kD G]⟩,c⟩
    .have K:=Kz (fA G);by_cases h:j=l
     .have L:(j == l)=true:=by simp[h]
      have M:=Kz h;clear h;by_cases i:k=m
      .have N:(k == m)=true:=by simp[i]
       have O:=Kz i;clear i;go_wp2_with (go_at_call 72;refine (jg _ xa xa' xc xc' B E t v (x.kept c) (y.kept c)).mono ?_;rintro e Q ⟨rfl,P⟩)
       go_ret
       exact⟨⟨_,rfl,by simp[H.out,K.out,M.out,O.out]⟩,c.trans P⟩
      .have N:(k == m)=false:=by simp[i]
       go_wp2
       go_ret
       exact⟨⟨false,rfl,by simp[i]⟩,c⟩
     .have L:(j == l)=false:=by simp[h]
      go_wp2
      go_ret
      exact⟨⟨false,rfl,by simp[h]⟩,c⟩
   .have J:(f == p)=false:=by simp[s]
    go_wp2
    go_ret
    exact⟨⟨false,rfl,by simp[s]⟩,c⟩
  .have I:(d == n)=false:=by simp[q]
   go_wp2
   go_ret
   exact⟨⟨false,rfl,by simp[q]⟩,c⟩
theorem Gc{a:List Q_}(c:l.length=a.length)(h:∀j,j<l.length->l.getD j Q_.zero=a.getD j Q_.zero):l=a:=by
 refine List.ext_getElem c λi b f=>?_
 have:=h i b;simpa[List.getD,b,f] using this
def Ku(e:Ending)(p:Prop):Prop:=∃b,e= .returned (.bool b)/\(b=true↔p)
theorem II(w:NI)(n p d O:NH)(q A B D:Nat)(Kj j:List NG)(l a:List Q_)(a2:Kj.length<=1048576)(a3:j.length<=1048576)(hl:l.length<=1048576)(_hl':a.length<=1048576)
  (ht:∀x∈l,x.texts.length<=1048576) (b2:∀x∈a,x.texts.length<=1048576) (hR:Strs w n Kj) (a4:Strs w p j) (hS:cB w d l) (b3:cB w O a):
  Calls prog 31 #[.agg #[.slice n Kj.length q,.slice d l.length B],.agg #[.slice p j.length A,.slice O a.length D]] w λe w'=>Ku e (Kj=j/\l=a)/\K_ w w':=by
 obtain⟨W,E⟩:=aj ((w.alloc (.cells #[.slice n Kj.length q,.slice d l.length B] 32)).alloc (.cells #[.slice p j.length A,.slice O a.length D] 32));have m:K_ w W:=by rw[E];exact (ah _ _).alloc _
 obtain⟨F,Y⟩:=aj w.heap.size;obtain⟨G,Z⟩:=aj (w.heap.size+1);have hA:W.rangeAt F 0 [.slice n Kj.length q,.slice d l.length B]:=by
  rw[E,Y];exact K_.range (ah _ _) E9 (X_ w #[.slice n Kj.length q,.slice d l.length B] 32)
 have hB:W.rangeAt G 0 [.slice p j.length A,.slice O a.length D]:=by
  have:=X_ (w.alloc (.cells #[.slice n Kj.length q,.slice d l.length B] 32)) #[.slice p j.length A,.slice O a.length D] 32;rw[MS] at this;rw[E,Z];exact this
 have a0:F<W.heap.size:=by rw[E,Y];simp;omega
 have a1:G<W.heap.size:=by rw[E,Z];simp
 have S:Hid (∀w',K_ W w'->(F<w'.heap.size/\G<w'.heap.size)/\w'.cell? ⟨F,0,none⟩=some (.slice n Kj.length q)/\w'.cell? ⟨F,1,none⟩=some (.slice d l.length B)/\w'.cell? ⟨G,0,none⟩=some (.slice p j.length A)/\w'.cell? ⟨G,1,none⟩=some (.slice O a.length D)):=λw' P=>⟨⟨Mf a0 P.size,Mf a1 P.size⟩,(P.cell a0).trans (hA 0 _ rfl),(P.cell a0).trans (hA 1 _ rfl),(P.cell a1).trans (hB 0 _ rfl),(P.cell a1).trans (hB 1 _ rfl)⟩
 clear hA hB a0 a1;go_enter func31,ntmps31
 go_upto_region 1 with fail
 rw[<-E,<-Z,<-Y];clear E Y Z;obtain⟨⟨r,s⟩,H,I,J,K⟩:=S.o W (K_.refl _);by_cases T:Kj=j
 .have hd:decide (Kj=j)=true:=decide_eq_true T;have Hr:=Kz T;clear T;by_cases U:l.length=a.length
  .have b4:((l.length:Int) == (a.length:Int))=true:=by simp[U]
   have b5:((l.length:Int) != (a.length:Int))=false:=by simp[U]
   have a9:=Kz U;clear U;go_wp2_with (go_at_call 72;refine (jg _ n p q A Kj j a2 a3 (hR.kept m) (a4.kept m)).mono ?_;rintro e L ⟨rfl,C⟩;rw[hd];clear r s H I J K;obtain⟨⟨r,s⟩,H,I,J,K⟩:=S.o L C)
   go_loopw [5] (λi wr=>∃k:Nat,k<=l.length/\i= .a k/\Hid (∀t,t<k->l.getD t Q_.zero=a.getD t Q_.zero)/\K_ W wr) (λi _=>l.length-(intOf i).toNat)
   case atStart=>exact⟨0,Mg _,rfl,Kz λt hj=>aO hj,C⟩
   case round=>
    obtain⟨k,hk,rfl,HG,Q⟩:=hrel;clear r s H I J K;obtain⟨⟨r,s⟩,_,m1,_,m2⟩:=S.o wr Q;by_cases a5:k<l.length
    .have a6:k<a.length:=by have:=a9.o;omega
     obtain⟨b,o,xa,ca,rfl,M,v,a7,_⟩:=hS.kept (m.trans Q) k a5;obtain⟨c,f,xb,cb,rfl,N,z,a8,_⟩:=b3.kept (m.trans Q) k a6;have b0:(l.getD k Q_.zero).texts.length<=1048576:=by simp only[List.getD,a5,Mj,Nw];exact ht _ (Mq a5)
     have b1:(a.getD k Q_.zero).texts.length<=1048576:=by simp only[List.getD,a6,Mj,Nw];exact b2 _ (Mq a6)
     have i0:(k:Int)<(l.length:Int):=E5;have i1:(k:Int)<(a.length:Int):=E5;obtain⟨x,hx⟩:=aj (l.getD k Q_.zero);obtain⟨y,hy⟩:=aj (a.getD k Q_.zero);rw[<-hx] at v a7 b0;rw[<-hy] at z a8 b1;have⟨HX,HY,b6,b7⟩:=mM hx hy a7 a8;have b8:Hid (∀w',K_ wr w'->(λw'=>w'.cell? ⟨F,1,none⟩=some (.slice (some ⟨b,o,none⟩) l.length B)/\w'.cell? ⟨G,1,none⟩=some (.slice (some ⟨c,f,none⟩) a.length D)/\w'.cell? ⟨b,o+k*7,none⟩=some (.string x.name)/\w'.cell? ⟨b,o+k*7+1,none⟩=some (.bool x.over)/\w'.cell? ⟨b,o+k*7+2,none⟩=some (.bool x.fail)/\w'.cell? ⟨b,o+k*7+3,none⟩=some (.string x.text)/\w'.cell? ⟨b,o+k*7+4,none⟩=some (.a x.at')/\w'.cell? ⟨b,o+k*7+5,none⟩=some (.a x.Zq)/\w'.cell? ⟨b,o+k*7+6,none⟩=some (.slice xa x.texts.length ca)/\w'.cell? ⟨c,f+k*7,none⟩=some (.string y.name)/\w'.cell? ⟨c,f+k*7+1,none⟩=some (.bool y.over)/\w'.cell? ⟨c,f+k*7+2,none⟩=some (.bool y.fail)/\w'.cell? ⟨c,f+k*7+3,none⟩=some (.string y.text)/\w'.cell? ⟨c,f+k*7+4,none⟩=some (.a y.at')/\w'.cell? ⟨c,f+k*7+5,none⟩=some (.a y.Zq)/\w'.cell? ⟨c,f+k*7+6,none⟩=some (.slice xb y.texts.length cb)) w'):=λw' h=>⟨(h.cell r).trans m1,(h.cell s).trans m2,(h.cell M).trans (v 0 _ rfl),(h.cell M).trans (v 1 _ rfl),(h.cell M).trans (v 2 _ rfl),(h.cell M).trans (v 3 _ rfl),(h.cell M).trans (v 4 _ rfl),(h.cell M).trans (v 5 _ rfl),(h.cell M).trans (v 6 _ rfl),(h.cell N).trans (z 0 _ rfl),(h.cell N).trans (z 1 _ rfl),(h.cell N).trans (z 2 _ rfl),(h.cell N).trans (z 3 _ rfl),(h.cell N).trans (z 4 _ rfl),(h.cell N).trans (z 5 _ rfl),(h.cell N).trans (z 6 _ rfl)⟩
     clear v z hx hy a7 a8;go_upto_region 6 with fail
     go_cut [39] from 21 to 39 (λb9 wx=>∃R,b9= .bool (!R)/\(R=true↔x=y)/\K_ wr wx)
     case first=>
      go_region_held (λw'=>w'.cell? ⟨F,1,none⟩=some (.slice (some ⟨b,o,none⟩) l.length B)/\w'.cell? ⟨G,1,none⟩=some (.slice (some ⟨c,f,none⟩) a.length D)/\w'.cell? ⟨b,o+k*7,none⟩=some (.string x.name)/\w'.cell? ⟨b,o+k*7+1,none⟩=some (.bool x.over)/\w'.cell? ⟨b,o+k*7+2,none⟩=some (.bool x.fail)/\w'.cell? ⟨b,o+k*7+3,none⟩=some (.string x.text)/\w'.cell? ⟨b,o+k*7+4,none⟩=some (.a x.at')/\w'.cell? ⟨b,o+k*7+5,none⟩=some (.a x.Zq)/\w'.cell? ⟨b,o+k*7+6,none⟩=some (.slice xa x.texts.length ca)/\w'.cell? ⟨c,f+k*7,none⟩=some (.string y.name)/\w'.cell? ⟨c,f+k*7+1,none⟩=some (.bool y.over)/\w'.cell? ⟨c,f+k*7+2,none⟩=some (.bool y.fail)/\w'.cell? ⟨c,f+k*7+3,none⟩=some (.string y.text)/\w'.cell? ⟨c,f+k*7+4,none⟩=some (.a y.at')/\w'.cell? ⟨c,f+k*7+5,none⟩=some (.a y.Zq)/\w'.cell? ⟨c,f+k*7+6,none⟩=some (.slice xb y.texts.length cb)) (exact bf b8 _ F9) ((go_at_call 73;refine (Cw _ x y xa xb ca cb b0 b1 (b6.o.kept F9) (b7.o.kept F9)).mono ?_;rintro e L ⟨⟨R,rfl,V⟩,c0⟩;have HQ:=Kz V;clear V;have kq:K_ wr L:=K_.trans F9 c0))
      all_goals
       go_wp2
       go_meet
       exact⟨R,rfl,HQ.o,kq⟩
     case rest=>
      obtain⟨R,rfl,V,kq⟩:=hcut;have HQ:=Kz V;clear V;obtain⟨wq,rfl⟩:=aj wc;cases R
      .go_wp2
       go_ret
       refine⟨⟨false,rfl, ?_⟩,(m.trans Q).trans kq⟩;constructor
       .intro X;cases X
       .rintro⟨_,e⟩;have:=HQ.o.2 (by rw[HX.o,HY.o,e]);cases this
      .go_wp2
       go_roundw
       case rel=>
        refine⟨k+1,E5,F3,Kz λt hj=>?_,Q.trans kq⟩;by_cases e:t=k
        .rw[e,<-HX.o,<-HY.o];exact HQ.o.1 rfl
        .exact HG.o t E5
       case measure=>simp[intOf];omega
    .go_wp2
     go_ret
     exact⟨⟨true,rfl,λ_=>⟨Hr.o,Gc a9.o λt hj=>HG.o t E5⟩,λ_=>rfl⟩,m.trans Q⟩
  .have b4:((l.length:Int) == (a.length:Int))=false:=F6;have b5:((l.length:Int) != (a.length:Int))=true:=F6;go_wp2_with (go_at_call 72;refine (jg _ n p q A Kj j a2 a3 (hR.kept m) (a4.kept m)).mono ?_;rintro e L ⟨rfl,C⟩;rw[hd];clear r s H I J K;obtain⟨⟨r,s⟩,H,I,J,K⟩:=S.o L C)
   go_ret
   exact⟨⟨false,rfl,(by constructor;(intro X;cases X);(rintro⟨_,e⟩;exact Nv (by rw[e]) U))⟩,m.trans C⟩
 .have hd:decide (Kj=j)=false:=decide_eq_false T;go_wp2_with (go_at_call 72;refine (jg _ n p q A Kj j a2 a3 (hR.kept m) (a4.kept m)).mono ?_;rintro e L ⟨rfl,C⟩;rw[hd];clear r s H I J K;obtain⟨⟨r,s⟩,H,I,J,K⟩:=S.o L C)
  go_ret
  exact⟨⟨false,rfl,(by constructor;(intro X;cases X);(rintro⟨e,_⟩;exact Nv e T))⟩,m.trans C⟩
def jh(picks:List Int)(i:Nat):Int:=if picks=[] then 0 else if picks.getD (i % picks.length) 0<0 then 0 else picks.getD (i % picks.length) 0
theorem IV(a:List Int)(i:Nat):0<=jh a i:=by
 unfold jh
 split
 .exact Int.le_refl _
 .split <;> omega
def ma(picks:List Int)(i n:Nat):Nat:=(jh picks i).toNat % n
theorem sH(a:List Int)(i:Nat)(h:0<n):ma a i n<n:=Nat.mod_lt _ h
inductive uR (Kq:List Qz) (picks:List Int):List Q_->List NG->List Q_->List NG->Prop
 | stop {T:List Q_} {D:List NG} (h:bU (Kk Kq) (Qq T) T []):uR Kq picks T D T D
 | step {T T':List Q_} {D D' ns:List NG} {r:Q_} (h:bU (Kk Kq) (Qq T) T ns) (hn:0<ns.length) (hr:Qq T (ns.getD (ma picks D.length ns.length) ByteArray.empty)=some r)
   (hw:uR Kq picks (doL (Kk Kq) T r) (D++ [ns.getD (ma picks D.length ns.length) ByteArray.empty]) T' D'):uR Kq picks T D T' D'
theorem Em(x:Option Q_):lJ x<=23:=by
 cases x with
 | none=>exact Me _
 | some r=>
  show (if r.over=true then 0 else 22-r.Zq.toNat)<=23
  split <;> omega
theorem uk(σ:Env):∀l:List NG,b_ l σ<=23*l.length
 | []=>Mg _
 | n :: l=>by
  have h:=uk σ l;have c:=Em (σ n);have e:b_ (n :: l) σ=lJ (σ n)+b_ l σ:=by simp[b_]
  rw[e,MX];omega
theorem GH(a:List Qz)(l:List Q_):mQ a l<=23*a.length:=by
 have h:=uk (Qq l) (a.map (·.name));rw[Nn] at h;exact h
structure Dc (Kq:List Qz) (picks:List Int) (T0 T:List Q_) (D:List NG):Prop where
 good:dD Kq T
 fits:D.length+mQ Kq T<=mQ Kq T0
 on:∀T' D',uR Kq picks T D T' D'->uR Kq picks T0 [] T' D'
theorem Dc.start{c:List Qz}{d:List Int}{T:List Q_}(h:dD c T):Dc c d T T []:=⟨h,E9,λ_ _ h=>h⟩
theorem Dc.next{a:List Qz}{c:List Int}{f T:List Q_}{D b:List NG}(h:Dc a c f T D)(l:bg (Kk a))(i:bU (Kk a) (Qq T) T b)(j:0<b.length):
  ∃r,Qq T (b.getD (ma c D.length b.length) ByteArray.empty)=some r/\aT (Kk a) (Qq T) r/\Dc a c f (doL (Kk a) T r) (D++ [b.getD (ma c D.length b.length) ByteArray.empty])/\mQ a (doL (Kk a) T r)<mQ a T:=by
 have m:b.getD (ma c D.length b.length) ByteArray.empty∈b:=by
  have k:=sH c D.length j;simp only[List.getD,Mj k,Nw];exact Mq k
 obtain⟨r,d,e⟩:=(i.ready h.good.asc _).1 m;have n:=EI h.good d e;refine⟨r,d,e,⟨rU l h.good (aY d).1 e, ?_,λp q s=>h.on p q (.step i j d s)⟩,n⟩;have:=h.fits;rw[MU];show D.length+1+_<=_;omega
variable {σ : Env}
section
variable {W : dA}
def pend(W:dA)(σ:Env)(r:Q_):List NG:=
 if r.over=true\/r.Zq=0 then [] else
 match W r.name with
 | none=>[]
 | some A=>(stepOf A r.at').asks.filter λa=>(bH W σ a).isNone
theorem jK :∀{l:List NG},(∃i,Yz W σ l=some i)↔∀a∈l,(bH W σ a).isSome=true
 | []=>⟨λ_ _ h=>(by cases h),λ_=>⟨[],rfl⟩⟩
 | a :: l=>by
  constructor
  .rintro⟨i,h⟩ b c;unfold Yz at h;cases e:bH W σ a with
   | none=>rw[e] at h;cases h
   | some x=>
    rw[e] at h;simp only at h;cases d:Yz W σ l with
    | none=>rw[d] at h;cases h
    | some f=>
     rcases Na.1 c with rfl|c
     .rw[e];rfl
     .exact jK.1 ⟨f,d⟩ b c
  .intro h;obtain⟨f,d⟩:=jK.2 (λb c=>h b (MB _ c));obtain⟨x,j⟩:=MF.1 (h a E9);exact⟨x :: f,by unfold Yz;rw[j,d]⟩
theorem yS{r:Q_}(n:(W r.name).isSome=true):aT W σ r↔r.over=false/\pend W σ r=[]:=by
 obtain⟨A,e⟩:=MF.1 n;unfold aT pend;constructor
 .rintro⟨b,a⟩;refine⟨b, ?_⟩;rcases a with a|⟨p,f,m,h⟩
  .rw[Nt (.inr a)]
  .by_cases c:r.Zq=0
   .rw[Nt (.inr c)]
   .rw[Nu (by rw[b];simp[c]),e];simp only;rw[e] at m;cases m;rw[List.filter_eq_nil_iff];intro d i;have:=jK.1 ⟨f,h⟩ d i;cases j:bH W σ d with
    | none=>rw[j] at this;cases this
    | some x=>simp
 .rintro⟨b,a⟩;refine⟨b, ?_⟩;by_cases c:r.Zq=0
  .exact .inl c
  .right
   rw[Nu (by rw[b];simp[c]),e] at a;simp only at a;rw[List.filter_eq_nil_iff] at a;obtain⟨f,h⟩:=(jK (l:=(stepOf A r.at').asks) (W:=W) (σ:=σ)).2 (λd i=>by
    have:=a d i;cases j:bH W σ d with
    | none=>rw[j] at this;simp at this
    | some x=>rfl)
   exact⟨A,f,e,h⟩
theorem Iz{n:NG}{r:Q_}(b:σ n=some r)(_hc:r.over=false)(a:NG):bH W (doX W σ n) a=if a=n/\(W n).isSome=true then (if (Xx W σ r).1.over=true then some ⟨(Xx W σ r).1.fail,(Xx W σ r).1.text⟩ else none) else bH W σ a:=by
 unfold bH;cases c:W a with
 | none=>
  have:¬(a=n/\(W n).isSome=true):=by rintro⟨rfl,h⟩;rw[c] at h;cases h
  rw[Nu this]
 | some A=>
  simp only;by_cases e:a=n
  .subst e;rw[Nt ⟨rfl,by rw[c];rfl⟩,iV b]
  .rw[Nu (by rintro⟨h,_⟩;exact e h),dV b,Nu e];cases d:σ a with
   | some x=>rfl
   | none=>
    simp only
    split
    .rename_i x hx
     split at hx
     .cases hx;rfl
     .cases hx
    .rfl
theorem EL{n:NG}{r x:Q_}(d:σ n=some r)(f:r.over=false)(h:(W n).isSome=true):pend W (doX W σ n) x=if (Xx W σ r).1.over=true then (pend W σ x).filter (λa=>!decide (a=n)) else pend W σ x:=by
 unfold pend;by_cases b:x.over=true\/x.Zq=0
 .rw[Nt b,Nt b]
  split <;> rfl
 .rw[Nu b,Nu b];cases l:W x.name with
  | none=>simp only;split <;> rfl
  | some A=>
   simp only;have j:bH W σ n=none:=by
    unfold bH;obtain⟨B,k⟩:=MF.1 h;rw[k,d];simp[f]
   by_cases c:(Xx W σ r).1.over=true
   .rw[Nt c,List.filter_filter]
    congr 1
    funext a
    rw[Iz d f];by_cases e:a=n
    .rw[Nt ⟨e,h⟩,Nt c];simp[e]
    .rw[Nu (by rintro⟨i,_⟩;exact e i)];simp[e]
   .rw[Nu c]
    congr 1
    funext a
    rw[Iz d f];by_cases e:a=n
    .rw[Nt ⟨e,h⟩,Nu c,e,j]
    .rw[Nu (by rintro⟨i,_⟩;exact e i)]
theorem mV(σ:Env)(n:NG):pend W σ (Q_.fresh n)=[]:=by
 unfold pend;rw[Nt (.inr rfl)]
theorem Dh{r:Q_}(f:bg W){A:fJ}(b:W r.name=some A)(m:0<=r.at')(n:r.at' < A.steps.length):(pend W σ r).Nodup:=by
 unfold pend
 split
 .exact List.nodup_nil
 .rw[b];simp only;refine List.Pairwise.filter _ ?_;have a:=(f _ _ b).1.2.2 r.at'.toNat E5;have e:A.steps.getD r.at'.toNat Xq.zero=stepOf A r.at':=rfl;rw[e] at a;cases c:(stepOf A r.at').fin with
  | true=>
   have:=(a.1 c).1;rw[Mw.1 this];exact List.Pairwise.nil
  | false=>
   have h:=(a.2 c).1.2.2.2.1;rw[Mr];intro i j k d l e;have:=(h j d).2 i l;simp only[List.getD,Mj k,Mj d,Nw] at this;exact this e
end
variable {σ : Env}
section
variable {W : dA}
def aJ(W:dA)(σ:Env)(n:NG):Nat->Q_×List NG
 | 0=>(Q_.fresh n,[])
 | k+1=>((Xx W σ (aJ W σ n k).1).1,(aJ W σ n k).2++ (Xx W σ (aJ W σ n k).1).2)
def jO(W:dA)(σ:Env)(r:Q_)(L:List NG):Prop:=∃k,aJ W σ r.name k= (r,L)/\∀j,j<k->aT W σ (aJ W σ r.name j).1
theorem lh{n:NG}:∀k,(aJ W σ n k).1.name=n
 | 0=>rfl
 | k+1=>by unfold aJ;rw[di];exact lh k
theorem jO.start(n:NG):jO W σ (Q_.fresh n) []:=⟨0,rfl,λ_ h=>aO h⟩
theorem jO.unit{r:Q_}{L:List NG}(h:jO W σ r L)(b:aT W σ r):jO W σ (Xx W σ r).1 (L++ (Xx W σ r).2):=by
 obtain⟨k,a,c⟩:=h;refine⟨k+1, ?_,λj d=>?_⟩
 .rw[di];unfold aJ;rw[a]
 .rw[di];rcases Nat.lt_or_ge j k with g|g
  .exact c j g
  .have:j=k:=E5;subst this;rw[a];exact b
theorem jr{n m:NG}(a:bB W σ m):∀{k:Nat},(∀j,j<k->aT W σ (aJ W σ n j).1)->aJ W (doX W σ m) n k=aJ W σ n k
 | 0,_=>rfl
 | k+1,h=>by
  have b:=jr (k:=k) a (λj c=>h j E5);have:=oh a (h k E5);unfold aJ;rw[b,this]
theorem jO.mono{m:NG}{r:Q_}{L:List NG}(h:jO W σ r L)(a:bB W σ m):jO W (doX W σ m) r L:=by
 obtain⟨k,c,b⟩:=h;refine⟨k,by rw[jr a b];exact c,λj d=>?_⟩;rw[jr a (λi e=>b i E5)];exact (b j d).mono a
theorem fG{n:NG}(a:(W n).isSome=true):∀{k:Nat},(∀j,j<k->aT W σ (aJ W σ n j).1)->(aJ W σ n k).1.over=false->(aJ W σ n k).1.Zq=k
 | 0,_,_=>rfl
 | k+1,h,ho=>by
  have b:=h k E5;have c:=fG a (k:=k) (λj d=>h j E5) b.1;rcases fH b (by rw[lh];exact a) with g | ⟨_,_,g⟩
  .show (Xx W σ (aJ W σ n k).1).1.Zq=_;rw[g,c];omega
  .exact Nv (g.symm.trans ho) E9
end
section
variable {Kq : List Qz} {Gl σ0 σs σ : Env} {ns : List NG} {i : Nat} {b : Bool}
structure nU (Kq:List Qz) (Gl σ0 σs:Env) (ns:List NG) (σ:Env) (i:Nat) (b:Bool):Prop where
 led:∃k,a_ (Behind (W:=Kk Kq) dI Gl) (doX (Kk Kq)) σ0 σ k
 no:b=false->σ=σs/\∀j,j<i->¬Behind (W:=Kk Kq) dI Gl σs (ns.getD j ByteArray.empty)
 yes:b=true->b_ (Kq.map (·.name)) σ<b_ (Kq.map (·.name)) σs
theorem nU.start(a:∃k,a_ (Behind (W:=Kk Kq) dI Gl) (doX (Kk Kq)) σ0 σs k):nU Kq Gl σ0 σs ns σs 0 false:=
 ⟨a,λ_=>⟨rfl,λj b=>aO b⟩,λh=>by cases h⟩
theorem nU.skip(h:nU Kq Gl σ0 σs ns σ i b)(c:¬Behind (W:=Kk Kq) dI Gl σ (ns.getD i ByteArray.empty)):nU Kq Gl σ0 σs ns σ (i+1) b:=
 ⟨h.led,λa=>⟨(h.no a).1,λj e=>by
  by_cases d:j=i
  .subst d;rw[<-(h.no a).1];exact c
  .exact (h.no a).2 j E5⟩,h.yes⟩
theorem nU.did(c:WfX (Kk Kq) σ)(h:nU Kq Gl σ0 σs ns σ i b){n:NG}(a:Behind (W:=Kk Kq) dI Gl σ n):nU Kq Gl σ0 σs ns (doX (Kk Kq) σ n) (i+1) true:=by
 obtain⟨k,e⟩:=h.led;obtain⟨r,f,_⟩:=a.1;have d:=(mF c a.1 (Kq.map (·.name))).2 (lK (c n r f).web);refine⟨⟨k+1,e.snoc a⟩,λj=>(by cases j),λ_=>?_⟩;cases b with
 | true=>have:=h.yes rfl;omega
 | false=>rw[(h.no rfl).1] at d⊢;exact d
theorem nU.JA(h:nU Kq Gl σ0 σs ns σ ns.length false)(c:∀n r,σs n=some r->n∈ns):AtEnd (Behind (W:=Kk Kq) dI Gl) σ:=by
 obtain⟨d,e⟩:=h.no rfl;intro n a;rw[d] at a;obtain⟨r,f,_⟩:=a.1;obtain⟨j,b,i⟩:=Ms (c n r f);have:=e j b;simp only[List.getD,Mj b,Nw,i] at this;exact this a
end
