import Derived.Deep.AppendLies
import Derived.Test.YtbmhchdegdjfkaaGreatDoorKWGo5
import Derived.Test.YtbmhchdegdjfkaaGreatDoorKOConcat
set_option maxRecDepth 100000
set_option maxHeartbeats 25600000
namespace Go.Proofs.YtbmhchdegdjfkaaGreatDoor
open Go.RowKit Go.Proofs.Tryz
theorem aO{P:Program}{e:TypeId}{z:KI}{size b:Nat}(h:(P.info? e).map (fun i=>(i.zero,i.size,i.bytes))=some (some z,size,b)):∃i,P.info? e=some i/\i.zero=some z/\i.size=size/\i.bytes=b:=by
 obtain⟨i,d,a⟩:=Option.map_eq_some_iff.1 h;simp only[Prod.mk.injEq] at a;exact⟨i,d,a.1,a.2.1,a.2.2⟩
theorem mV{W:dQ}{σ:Env}{a:KC}{x:Xz}:∀{l:List KC} {xs:List Xz},Yz W σ l=some xs->bA W σ a=some x->Yz W σ (l++ [a])=some (xs++ [x])
 | [],xs,h,hx=>by
  simp only[Yz,JI] at h;subst h;simp[Yz,hx]
 | b :: l,xs,h,hx=>by
  unfold Yz at h;cases c:bA W σ b with
  | none=>simp[c] at h
  | some y=>
   cases d:Yz W σ l with
   | none=>simp[c,d] at h
   | some ys=>
    simp only[c,d,JI] at h;subst h;show Yz W σ (b :: (l++ [a]))=_;unfold Yz;rw[c,mV d hx]
    rfl
theorem m_{W:dQ}{σ:Env}{a:KC}(d:bA W σ a=none):∀{l:List KC},a∈l->Yz W σ l=none
 | b :: l,h=>by
  unfold Yz;rcases JN.1 h with rfl|h
  ·rw[d]
  ·cases e:bA W σ b with
   | none=>rfl
   | some y=>simp only[m_ d h]
def Fh(Kq:List Qz)(l:List Q_)(asks:List KC)(w':KH)(e:Ending):Prop:=
 ∃(d:KG) (n c:Nat) (ok:Bool),e= .returned (.tuple #[.slice d n c,.bool ok])/\(ok=true->∃xs,Yz (Kk Kq) (Qq l) asks=some xs/\n=xs.length/\ed w' d xs)/\(ok=false->Yz (Kk Kq) (Qq l) asks=none)
theorem kF(w:KH)(E:Nat)(a:KG)(P:Nat)(n:List Qz)(d:KG)(Q:Nat)(l:List Q_)(s:Xq)(p F:KG)(y G:Nat)(a6:n.length<=1048576)(a7:l.length<=1048576)(c5:s.asks.length<=1000)(a8:∀x∈s.asks,x.size<=1000)
  (R:iJ w E a n.length P d l.length Q) (S:bY w a n) (T:bK w d l) (U:Strs w p s.asks):
  Calls prog 79 #[.pointer (some ⟨E,0,none⟩),.agg #[.slice p s.asks.length y,.int .i64 s.on,.slice F s.cases.length G,.int .i64 s.els,.int .i64 s.fall,.bool s.fin,.bool s.bad,.string s.give]] w fun e w'=>Fh n l s.asks w' e/\K_ w w':=by
 have m:K_ w (w.alloc (.cells #[.slice p s.asks.length y,.int .i64 s.on,.slice F s.cases.length G,.int .i64 s.els,.int .i64 s.fall,.bool s.fin,.bool s.bad,.string s.give] 83)):=ag _ _;obtain⟨b,q⟩:=ah (w.alloc (.cells #[.slice p s.asks.length y,.int .i64 s.on,.slice F s.cases.length G,.int .i64 s.els,.int .i64 s.fall,.bool s.fin,.bool s.bad,.string s.give] 83));have q0:b.cell? ⟨w.heap.size,0,none⟩=some (.slice p s.asks.length y):=by rw[q];exact X_ w _ _ 0 _ rfl
 have V:w.heap.size<b.heap.size:=by rw[q];simp
 rw[<-q] at m;have W:K_ b (b.alloc (.cells #[] 173)):=ag _ _;have X:Hid ((b.alloc (.cells #[] 173)).ownsRow b.heap.size 173 2 (.slice (some ⟨b.heap.size,0,none⟩) 0 0) 0 (dm [])):=Jz b #[] 0 (IZ _) (Ja _) rfl;have a9:=Kz (U.kept m);have b0:=Kz (S.kept m);have b1:=Kz (T.kept m);have b2:=Kz (R.kept m);have Y:=Kz m;clear U S T R m;go_enter func79,ntmps79
 go_upto_region 1 with fail
 rw[<-q];clear q;go_wp2
 go_loopg [6,7] s.asks.length (fun gg x6 x7 wr=>∃(i:Nat) (c:List Xz),x7= .int .i64 (i:Int)/\i+gg=s.asks.length/\c.length=i/\Hid (Yz (Kk n) (Qq l) (s.asks.take i)=some c)/\K_ b wr/\Hid (wr.ownsRow b.heap.size 173 2 x6 c.length (dm c)))
 case atStart=>exact⟨0,[],rfl,by omega,rfl,Kz rfl,W,X⟩
 case round=>
  clear X W;obtain⟨i,c,rfl,hi,H,Z,k,I⟩:=hrel;have a0:=Kz H;clear H;obtain⟨J,K,rfl⟩:=ax I.o;have c0:=(k.cell V).trans q0;have cz:w.heap.size<wr.heap.size:=I_ V k.size;by_cases c6:(i:Int)<(s.asks.length:Int)
  ·have r:i<s.asks.length:=by omega
   obtain⟨sb,so,rfl,b3,a1⟩:=(a9.o.kept k) i r;obtain⟨L,A⟩:=ah (s.asks.getD i ByteArray.empty);rw[<-A] at a1;have b4:L.size<=1000:=by rw[A];exact a8 _ (by simp[List.getD,r])
   have a2:=Kz A;clear A;go_wp2_with fail
   refine (AL wr E a P n d Q l L a6 a7 b4 (b2.o.kept k) (b0.o.kept k) (b1.o.kept k)).mono ?_;rintro e j ⟨⟨f,t,ok,rfl,a3⟩,v⟩;have M:=Kz a3;clear a3 a1 b3;have N:K_ j (j.alloc (.cells #[.bool f,.string t] 173)):=ag _ _;cases ok
   ·go_wp2
    go_ret2
    refine⟨⟨J,_,K,false,rfl,(fun h=>(by cases h)),fun _=>m_ (a:=L) (by simpa using M.o) (by rw[a2.o];simp[List.getD,r])⟩,Y.o.trans (k.trans (v.trans N))⟩
   ·have B:K_ j ((j.alloc (.cells #[.bool f,.string t] 173)).alloc (.cells #[.bool f,.string t] 173)):=N.alloc _;have r0:=X_ j #[.bool f,.string t] 173 0 _ rfl;have r1:=X_ j #[.bool f,.string t] 173 1 _ rfl;simp only[JA] at r0 r1;have a4:=Kz (aj I.o (v.trans B));have b5:b.heap.size<=((j.alloc (.cells #[.bool f,.string t] 173)).alloc (.cells #[.bool f,.string t] 173)).heap.size:=(k.trans (v.trans B)).size;have b6:Hid (∀C u,([.bool f,.string t]:List KI)[C]? =some u->((j.alloc (.cells #[.bool f,.string t] 173)).alloc (.cells #[.bool f,.string t] 173)).cell? ((⟨j.heap.size+1,0,none⟩:Addr).add C)=some u):=fun C u D=>by have:=X_ (j.alloc (.cells #[.bool f,.string t] 173)) #[.bool f,.string t] 173 C u D;rw[JG] at this;rw[JL];exact this
    have b7:Hid (∀u∈([.bool f,.string t]:List KI),u.oneCell'=true):=fun u D=>by simp only[JN,JO,or_false] at D;rcases D with rfl | rfl <;> rfl
    have KK:=Kz (k.trans (v.trans B));have H:c.length<=1000:=by have:=a0.o;omega
    obtain⟨ic,b8,b9,c1,c3⟩:=aO Tryz.AJ;clear v N B;go_wp2_with (at_builtin;refine wpList_append_own _ rfl (.tmp 31) (.tmp 33) 131 rfl b.heap.size 173 ic _ 2 24 underlying131 b8 b9 c1 c3 rfl (by decide) (.slice J c.length K) c.length (dm c) rfl a4.o ⟨j.heap.size+1,0,none⟩ 1 1 [.bool f,.string t] rfl rfl b6.o b7.o (by unfold maxLen;omega) (by omega) b5 ?_;intro v' w6 O a5 _;have KP:=aF KK.out (IZ _) a4.o a5;have HP:=Kz O;obtain⟨c7,c8,rfl⟩:=ax O;clear O a5)
    go_roundg (gk-1)
    case measure=>omega
    case rel=>exact⟨i+1,c++ [⟨f,t⟩],by go_num,by omega,by rw[JH,a0.o];rfl,Kz (by rw[Jf r];exact mV Z.o (by rw[a2.o] at M;simpa[List.getD,r] using M.o)),KP,Kz (by rw[nG,JH];exact HP.o)⟩
  ·have c4:i=s.asks.length:=by omega
   go_wp2
   go_ret2
   refine⟨⟨J,_,K,true,rfl,fun _=>⟨c, ?_,rfl, ?_⟩,(fun h=>(by cases h))⟩,Y.o.trans k⟩
   ·have:=Z.o;rw[c4,JB] at this;exact this
   ·obtain⟨d2,c2,e2,_,hT⟩:=iZ I.o;simp only[JJ,true_and] at e2;obtain⟨rfl,_⟩:=e2;exact hT.answers
def EU(Kq:List Qz)(r:Q_):Prop:=∃A,Kk Kq r.name=some A/\0<=r.at'/\r.at' < A.steps.length
def bV(W:dQ):Prop:=∀n A,W n=some A->fZ A/\iI n
theorem kD :∀{xs:List Xz} {k j:Nat},kU xs k=some j->∃i,j=k+i/\i<xs.length/\gP (xs.getD i Xz.zero)/\lm xs gP i
 | [],_,_,h=>by simp[kU] at h
 | x :: l,k,j,h=>by
  unfold kU at h;by_cases a:x.fail=true
  ·rw[Kg a] at h;cases h;exact⟨0,rfl,by simp,a,fun j b=>aP b⟩
  ·rw[Kh a] at h;obtain⟨i,f,c,d,e⟩:=kD h;refine⟨i+1,by omega,by simpa using c,d,fun j b=>?_⟩;cases j with
   | zero=>exact a
   | succ j=>exact e j (by omega)
theorem rC :∀{xs:List Xz} {k:Nat},kU xs k=none->lm xs gP xs.length
 | [],_,_=>fun j b=>aP b
 | x :: l,k,h=>by
  unfold kU at h;by_cases c:x.fail=true
  ·rw[Kg c] at h;cases h
  ·rw[Kh c] at h;have:=rC h;intro j b;cases j with
   | zero=>exact c
   | succ j=>exact this j (by simpa using b)
theorem qU(t:KC)(els:Int):∀(l:List bD),(∃i,i<l.length/\(l.getD i bD.zero).text=t/\(∀j,j<i->(l.getD j bD.zero).text≠t)/\nk t els l= (l.getD i bD.zero).goto)\/((∀j,j<l.length->(l.getD j bD.zero).text≠t)/\nk t els l=els)
 | []=>.inr ⟨fun j a=>aP a,rfl⟩
 | c :: l=>by
  by_cases b:c.text=t
  ·exact .inl ⟨0,by simp,b,fun j a=>aP a,by simp[nk,b,List.getD]⟩
  ·have f:nk t els (c :: l)=nk t els l:=by simp[nk,b]
   rw[f];rcases qU t els l with⟨i,d,e,h,k⟩|⟨d,e⟩
   ·refine .inl ⟨i+1,by simpa using d,e,fun j a=>?_,k⟩;cases j with
    | zero=>exact b
    | succ j=>exact h j (by omega)
   ·refine .inr ⟨fun j a=>?_,e⟩;cases j with
    | zero=>exact b
    | succ j=>exact d j (by simpa using a)
variable {xs : List Xz}
theorem gu{s:Xq}(h:uE s xs):Followed s xs (bR s xs):=by
 refine .inr ⟨h, ?_⟩;unfold bR;cases e:kU xs 0 with
 | some j=>
  obtain⟨i,p,f,k,l⟩:=kD e;have:j=i:=by omega
  subst this;refine .inl ⟨j,f,k,l, ?_⟩;by_cases a:s.fall= -1
  ·exact .inl ⟨a,by simp[a]⟩
  ·exact .inr ⟨a,by simp[a]⟩
 | none=>
  refine .inr ⟨rC e,_, ?_,rfl⟩;by_cases b:xs.length=0
  ·rw[Kg b];exact .inl ⟨b,rfl⟩
  ·rw[Kh b];refine .inr ⟨b, ?_⟩;rcases qU (lg xs s.on) s.els s.cases with⟨i,c,d,m,n⟩|⟨c,d⟩
   ·exact .inl ⟨i,c,d,m,n⟩
   ·exact .inr ⟨c,d⟩
theorem jb.Hd{cost:Int}{l:List Xq}{a:Int}{ans:List Xz}{g:bN}(h:jb cost l a ans g):(g.code=0->g.over=false->0<=g.at'/\g.at' < l.length)/\(g.over=true->7<=g.text.size):=by
 rcases h with⟨_,rfl⟩|⟨⟨c,⟨w,x⟩,d⟩,h⟩
 ·exact⟨fun e=>by simp[bN.none] at e,fun e=>by simp[bN.none] at e⟩
 ·have f:a.toNat<l.length:=by omega
  have j:jS (iE l a) l.length:=c.2.2 a.toNat f;obtain⟨⟨_,_,_,k,_,b,m,_⟩,n⟩:=j.2 d;rcases h with⟨_,rfl⟩|⟨p,⟨i,q,_,_,⟨_,rfl⟩|⟨y,rfl⟩⟩|⟨_,r,s,rfl⟩⟩
  ·exact⟨fun e=>by simp[bN.none] at e,fun e=>by simp[bN.none] at e⟩
  ·refine⟨fun _ e=>by simp at e,fun _=>?_⟩;have:=(k i (by rw[<-p.1];exact q)).1.1;show 7<=(ji (iE l a) i).size;unfold ji;rw[ByteArray.size_append];show 7<=6+_;omega
  ·exact⟨fun _ _=>⟨by show 0<=(iE l a).fall;omega,m.2⟩,fun e=>by simp at e⟩
  ·refine⟨fun _ _=>?_,fun e=>by simp at e⟩;show 0<=r/\r<l.length;rcases s with⟨_,rfl⟩ | ⟨_,⟨t,v,_,_,rfl⟩ | ⟨_,rfl⟩⟩
   ·exact b
   ·exact (n t v).2
   ·exact b
theorem uD(s:Xq)(a:List Xz):(bR s a).code=0:=by
 unfold bR
 split
 ·split <;> rfl
 ·rfl
structure Q_.Good (Kq:List Qz) (r:Q_):Prop where
 act:EU Kq r
 lo:0<=r.Zq
 hi:r.Zq<=20
 tl:(r.texts.length:Int)<=5*r.Zq
 ts:∀t∈r.texts,t.size<=200
 tx:r.text.size<=200
 stp:∀A,Kk Kq r.name=some A->r.over=false->r.Zq≠0->(stepOf A r.at').fin=false
def dP(Kq:List Qz)(σ:Env):Prop:=∀n r,σ n=some r->r.name=n/\r.Good Kq
theorem Eh{n:KC}(h:n.size<=20):(um n).size<=200:=by
 unfold um;rw[ByteArray.size_append];show 3+n.size<=200;omega
variable {Kq : List Qz}
theorem Be{σ:Env}{n:KC}{x:Xz}(b:dP Kq σ)(c:n.size<=20)(h:bA (Kk Kq) σ n=some x):x.text.size<=200:=by
 unfold bA at h
 split at h
 ·simp only[JI] at h;subst h;exact Eh c
 ·split at h
  ·rename_i r hr
   split at h
   ·simp only[JI] at h;subst h;exact (b n r hr).2.tx
   ·cases h
  ·cases h
theorem nu{W:dQ}{σ:Env}{p:Xz->Prop}:∀{l:List KC} {xs:List Xz},(∀n∈l,∀x,bA W σ n=some x->p x)->Yz W σ l=some xs->xs.length=l.length/\∀x∈xs,p x
 | [],xs,_,h=>by
  simp only[Yz,JI] at h;subst h;exact⟨rfl,fun x f=>by cases f⟩
 | a :: l,xs,hp,h=>by
  unfold Yz at h;cases b:bA W σ a with
  | none=>simp[b] at h
  | some x=>
   cases c:Yz W σ l with
   | none=>simp[b,c] at h
   | some ys=>
    simp only[b,c,JI] at h;subst h;obtain⟨i,j⟩:=nu (p:=p) (fun n k=>hp n (Jp _ k)) c;refine⟨by simp[i],fun y d=>?_⟩;rcases JN.1 d with rfl | d
    ·exact hp a (by simp) y b
    ·exact j y d
theorem jN{σ:Env}{s:Xq}(b:dP Kq σ)(c:∀n∈s.asks,n.size<=20)(h:Yz (Kk Kq) σ s.asks=some xs):uE s xs/\∀x∈xs,x.text.size<=200:=by
 obtain⟨d,a⟩:=nu (p:=fun x=>x.text.size<=200) (fun n e x f=>Be b (c n e) f) h;refine⟨⟨d,fun ⟨i,j,k⟩=>?_⟩,a⟩;have:=a (xs.getD i Xz.zero) (by simp[List.getD,j]);unfold ni at k;omega
theorem gD{A:dD}(e:fZ A){i:Int}(h:0<=i)(k:i<A.steps.length):(stepOf A i).asks.length<=5/\∀n∈(stepOf A i).asks,iI n:=by
 have b:jS (stepOf A i) A.steps.length:=e.2.2 i.toNat (by omega);cases c:(stepOf A i).fin with
 | true=>
  have:=(b.1 c).1;refine⟨by omega,fun n a=>?_⟩;rw[Kn this] at a;cases a
 | false=>
  have:=(b.2 c).1;refine⟨this.2.2.1,fun n a=>?_⟩;obtain⟨j,d,f⟩:=Jk a;have:=(this.2.2.2.1 j d).1;simp only[List.getD,Jd d,f,Kl] at this;exact this
theorem xA{s:Xq}{i:Nat}(h:∀n∈s.asks,n.size<=20):(ji s i).size<=200:=by
 unfold ji;rw[ByteArray.size_append];show 6+_<=200;by_cases a:i<s.asks.length
 ·have:=h (s.asks.getD i ByteArray.empty) (by simp[List.getD,a]);omega
 ·have e:s.asks.getD i ByteArray.empty=ByteArray.empty:=by simp[List.getD,a]
  rw[e]
  decide
theorem Gs(give:KC)(l:List KC):(lX give l).size<=200:=by
 show (lD give.data.toList (texts l)).toArray.size<=200;unfold lD
 split
 ·simp
 ·split
  ·simpa using ‹_›
  ·simp[gW]
theorem oM(a:List Xz):(aL a).length<=a.length:=by
 unfold aL;rw[J_];exact List.length_filter_le _ _
theorem mg{t:KC}(h:t∈aL xs):∃x∈xs,x.text=t:=by
 unfold aL at h;rw[Ju] at h;obtain⟨x,b,e⟩:=h;exact⟨x,(List.mem_filter.1 b).1,e⟩
theorem rV{A:dD}{r:Q_}(a:Kk Kq r.name=some A)(b:0<=r.at')(c:r.at' < A.steps.length)(l:0<=r.Zq)(m:r.Zq<20)(d:(r.texts.length:Int)<=5*(r.Zq+1))(e:∀t∈r.texts,t.size<=200)(f:r.text.size<=200):(bQ A r).1.Good Kq:=by
 unfold bQ;cases h:(stepOf A r.at').fin with
 | true=>
  simp only[if_true];exact⟨⟨A,a,b,c⟩,by show 0<=r.Zq+1;omega,by show r.Zq+1<=20;omega,d,e,Gs _ _,fun _ _ i=>by simp at i⟩
 | false=>
  simp only[Bool.false_eq_true,if_false];refine⟨⟨A,a,b,c⟩,by show 0<=r.Zq+1;omega,by show r.Zq+1<=20;omega,d,e,f,fun j k _ _=>?_⟩;have:A=j:=JR (a.symm.trans k);subst this;exact h
theorem dU{σ:Env}{r:Q_}(y:bV (Kk Kq))(B:dP Kq σ)(h:r.Good Kq)(j:aV (Kk Kq) σ r):(Xx (Kk Kq) σ r).1.Good Kq:=by
 obtain⟨A,b,d,e⟩:=h.act;have k:=(y _ _ b).1;unfold Xx;rw[b];simp only;by_cases f:r.Zq=0
 ·rw[Kg f];have:=h.tl;exact rV b d e h.lo (by omega) (by omega) h.ts h.tx
 ·rw[Kh f];rcases j.2 with C|⟨S,a,l,m⟩
  ·exact Ki C f
  ·rw[b] at l;cases l;rw[m];simp only;have T:=h.lo;have U:=h.hi;have V:=h.tl;by_cases p:r.Zq=20
   ·rw[Kg p];exact⟨⟨A,b,d,e⟩,h.lo,h.hi,h.tl,h.ts,by show eY.size<=200;decide,fun _ _ h=>by simp at h⟩
   ·rw[Kh p];obtain⟨D,E⟩:=gD k d e;have q:∀n∈(stepOf A r.at').asks,n.size<=20:=fun n F=>(E n F).2.1
    obtain⟨s,G⟩:=jN B q m;have H:=gu s;have W:jb A.cost A.steps r.at' a (bR (stepOf A r.at') a):= .inr ⟨⟨k,⟨d,e⟩,h.stp A b j.1 f⟩,H⟩;by_cases c:(bR (stepOf A r.at') a).over=true
    ·rw[Kg c];refine⟨⟨A,b,d,e⟩,by show 0<=r.Zq+1;omega,by show r.Zq+1<=20;omega,by show (r.texts.length:Int)<=5*(r.Zq+1);omega,h.ts, ?_,fun _ _ h=>by simp at h⟩;show (bR (stepOf A r.at') a).text.size<=200;unfold bR
     split
     ·split
      ·exact xA q
      ·show (⟨#[]⟩:KC).size<=200;decide
     ·show (⟨#[]⟩:KC).size<=200;decide
    ·rw[Kh c];have t:0<=(bR (stepOf A r.at') a).at'/\(bR (stepOf A r.at') a).at' < A.steps.length:=by
      have I:(stepOf A r.at').fin=false:=h.stp A b j.1 f;have J:jS (stepOf A r.at') A.steps.length:=k.2.2 r.at'.toNat (by omega);obtain⟨⟨_,_,_,_,_,v,K,_⟩,L⟩:=J.2 I;unfold bR at c⊢
      split
      ·rename_i w hi'
       rw[hi'] at c;simp only at c;by_cases x:(stepOf A r.at').fall= -1
       ·rw[Kg x] at c;simp at c
       ·rw[Kh x];exact⟨by show 0<=(stepOf A r.at').fall;omega,K.2⟩
      ·show 0<=(if a.length=0 then _ else _)/\(if a.length=0 then _ else _)<_
       split
       ·exact v
       ·rcases qU (lg a (stepOf A r.at').on) (stepOf A r.at').els (stepOf A r.at').cases with⟨w,M,_,_,N⟩|⟨_,O⟩
        ·rw[N];exact (L w M).2
        ·rw[O];exact v
     have X:=oM a;have Y:a.length<=5:=by rw[s.1];exact D
     refine rV (r:={r with texts:=r.texts++aL a,at':=(bR (stepOf A r.at') a).at'}) b t.1 t.2 h.lo (by show r.Zq<20;omega) ?_ (fun P i=>?_) h.tx
     ·show ((r.texts++aL a).length:Int)<=5*(r.Zq+1);rw[JH]
      push_cast
      omega
     ·rcases Jh.1 i with i|i
      ·exact h.ts P i
      ·obtain⟨Q,R,rfl⟩:=mg i;exact G Q R
def IG(w w':KH)(a:KG)(n cap:Nat)(d:KG)(m dc:Nat)(e:Ending):Prop:=∃kb,e= .returned (.pointer (some ⟨kb,0,none⟩))/\iJ w' kb a n cap d m dc/\K_ w w'
theorem j_(w:KH)(a:KG)(n b:Nat)(f:KG)(h i:Nat)(d:KG)(m c:Nat):
  Calls prog 77 #[.agg #[.slice a n b],.agg #[.slice f h i,.slice d m c]] w fun e w'=>IG w w' a n b d m c e:=by
 go_enter func77,ntmps77
 go_wp2
 go_ret
 have j:=au.made ((w.alloc (.cells #[.slice a n b] 25)).alloc (.cells #[.slice f h i,.slice d m c] 29)) #[.slice a n b,.slice d m c] 140;have k:=X_ ((w.alloc (.cells #[.slice a n b] 25)).alloc (.cells #[.slice f h i,.slice d m c] 29)) #[.slice a n b,.slice d m c] 140 0 _ rfl;have l:=X_ ((w.alloc (.cells #[.slice a n b] 25)).alloc (.cells #[.slice f h i,.slice d m c] 29)) #[.slice a n b,.slice d m c] 140 1 _ rfl;simp only[JG,JA] at j k l;exact⟨_,rfl,⟨j,k,l⟩,((ag w _).alloc _).alloc _⟩
def gT(Kq:List Qz):Prop:=∀y∈Kq,∀s∈y.steps,s.asks.length<=1000/\∀x∈s.asks,x.size<=1000
theorem xq(w:KH)(a:KG)(h:Nat)(c:List Qz)(m:KG)(n p:Nat)(d:KG)(j:Nat)(l:List Q_)(r:Q_)(xa:KG)(xc:Nat)(Z:c.length<=1048576)(a9:l.length<=1048576)(a0:gT c)
  (b1:r.over=false->r.Zq≠0->EU c r) (hN:bY w a c) (hS:bK w d l):
  Calls prog 87 #[.agg #[.slice a c.length h],.agg #[.slice m n p,.slice d l.length j],.agg #[.string r.name,.bool r.over,.bool r.fail,.string r.text,.int .i64 r.at',.int .i64 r.Zq,.slice xa r.texts.length xc]] w fun e w'=>Says e (aV (Kk c) (Qq l) r)/\K_ w w':=by
 obtain⟨f,v⟩:=ah (((w.alloc (.cells #[.slice a c.length h] 25)).alloc (.cells #[.slice m n p,.slice d l.length j] 29)).alloc (.cells #[.string r.name,.bool r.over,.bool r.fail,.string r.text,.int .i64 r.at',.int .i64 r.Zq,.slice xa r.texts.length xc] 40));have kB:K_ w f:=by rw[v];exact ((ag _ _).alloc _).alloc _
 have a1:f.heap.size=w.heap.size+3:=by rw[v];simp
 have b0:f.cell? ⟨w.heap.size,0,none⟩=some (.slice a c.length h):=by rw[v,K_.cell (w:=w.alloc (.cells #[.slice a c.length h] 25)) ((ag _ _).alloc _) (by simp)];exact X_ w _ _ 0 _ rfl
 have s0:f.cell? ⟨w.heap.size+1,0,none⟩=some (.slice m n p):=by have:=X_ (w.alloc (.cells #[.slice a c.length h] 25)) #[.slice m n p,.slice d l.length j] 29 0 _ rfl;rw[JG] at this;rw[v,K_.cell (w:=(w.alloc (.cells #[.slice a c.length h] 25)).alloc (.cells #[.slice m n p,.slice d l.length j] 29)) (ag _ _) (by simp)];exact this
 have s1:f.cell? ⟨w.heap.size+1,1,none⟩=some (.slice d l.length j):=by have:=X_ (w.alloc (.cells #[.slice a c.length h] 25)) #[.slice m n p,.slice d l.length j] 29 1 _ rfl;rw[JG] at this;rw[v,K_.cell (w:=(w.alloc (.cells #[.slice a c.length h] 25)).alloc (.cells #[.slice m n p,.slice d l.length j] 29)) (ag _ _) (by simp)];exact this
 have F:∀J L,(#[.string r.name,.bool r.over,.bool r.fail,.string r.text,.int .i64 r.at',.int .i64 r.Zq,.slice xa r.texts.length xc]:Array KI).toList[J]? =some L->f.cell? ⟨w.heap.size+2,J,none⟩=some L:=fun J L x=>by have:=X_ ((w.alloc (.cells #[.slice a c.length h] 25)).alloc (.cells #[.slice m n p,.slice d l.length j] 29)) #[.string r.name,.bool r.over,.bool r.fail,.string r.text,.int .i64 r.at',.int .i64 r.Zq,.slice xa r.texts.length xc] 40 J L x;rw[JG,JG,JA] at this;rw[v];exact this
 have r0:=F 0 _ rfl;have O:=F 1 _ rfl;have r4:=F 4 _ rfl;have r5:=F 5 _ rfl;have z0:w.heap.size<f.heap.size:=by omega
 have z1:w.heap.size+1<f.heap.size:=by omega
 have z2:w.heap.size+2<f.heap.size:=by omega
 have⟨C,c4⟩:=aD kB a1;clear F kB a1;go_enter func87,ntmps87
 go_upto_region 1 with fail
 rw[<-v];clear v;cases D:r.over
 ·rw[D] at O;by_cases x:r.Zq=0
  ·have b2:(r.Zq == 0)=true:=by simp[x]
   go_wp2
   go_ret
   exact⟨.yes ⟨D,.inl x⟩,C.o⟩
  ·have b2:(r.Zq == 0)=false:=by simpa using x
   obtain⟨c5,M,b3,a2⟩:=b1 D x;have i:Hid (∀w',K_ f w'->w'.cell? ⟨w.heap.size,0,none⟩=some (.slice a c.length h)/\w'.cell? ⟨w.heap.size+1,0,none⟩=some (.slice m n p)/\w'.cell? ⟨w.heap.size+1,1,none⟩=some (.slice d l.length j)/\w'.cell? ⟨w.heap.size+2,0,none⟩=some (.string r.name)/\w'.cell? ⟨w.heap.size+2,4,none⟩=some (.int .i64 r.at')):=fun w' K=>⟨(K.cell z0).trans b0,(K.cell z1).trans s0,(K.cell z1).trans s1,(K.cell z2).trans r0,(K.cell z2).trans r4⟩
   go_upto_region 5 with fail
   refine gL 22 i.o (aG f) (fun k=>?_);have KD:K_ f f.drew:=aG f;generalize b4:f.drew=wd at k KD⊢;clear b4 b0 s0 s1 r0 r4 O r5;refine ae 0 k ?_;refine ae 1 k ?_;refine aB 3 k ?_;refine ae 7 k ?_;refine ae 13 k ?_;refine ae 14 k ?_;refine ai 2 (fun K b=>?_);go_simp
   go_at_call 77
   refine (j_ wd a c.length h m n p d l.length j).mono ?_;rintro e w1 ⟨kb,rfl,a3,k1⟩;have P:=KD.trans k1;have b5:=Kz a3;clear a3 k1;dsimp only;refine b.out _ _ (fun _=>i.o _ P) ?_;clear b K;try simp only[Act.put,upA,upB,upC]
   clear k;refine ai 8 (fun K b=>?_);go_simp
   go_at_call 44
   refine (dG w1 a h c r.name Z ((hN.kept C.o).kept P)).mono ?_;rintro e w2 ⟨⟨c6,rfl,hq⟩,Q⟩;have q:=P.trans Q;have b6:=Kz (b5.o.kept Q);clear Q;rcases hq with⟨R,hk,rfl,A,_⟩|⟨rfl,A⟩
   ·rw[M] at A;simp only[Option.some.injEq] at A;have S:=(hN.kept C.o).kept q;obtain⟨nb,nq,cs,rfl,c7,T,na,nc,rfl,U⟩:=S R hk;obtain⟨y,V⟩:=ah (c.getD R Qz.zero);rw[<-V] at T U A;have n2:=T 2 _ rfl;subst A;obtain⟨E,G⟩:∃E:Nat,r.at'= (E:Int):=⟨r.at'.toNat,by omega⟩;have a4:E<y.steps.length:=by have s:=a2;rw[G] at s;dsimp only at s;omega
    obtain⟨tb,tq,c8,rfl,c9,t,aa,ca,ac,cc,rfl,W,a5,_⟩:=U E a4;obtain⟨H,N⟩:=ah (y.steps.getD E Xq.zero);rw[<-N] at t W a5;have t0:=t 0 _ rfl;have t1:=t 1 _ rfl;have t2:=t 2 _ rfl;have t3:=t 3 _ rfl;have t4:=t 4 _ rfl;have t5:=t 5 _ rfl;have t6:=t 6 _ rfl;have t7:=t 7 _ rfl;rw[JM] at t0;have d0:(R:Int)<(c.length:Int):=by omega
    have d1:(E:Int)<(y.steps.length:Int):=by omega
    have X:H∈y.steps:=by rw[N];simp[List.getD,a4]
    have Y:y∈c:=by rw[V];simp[List.getD,hk]
    have b7:=(a0 y Y H X).1;have b8:=(a0 y Y H X).2;have b9:=Kz W;have c0:=Kz (hS.kept (C.o.trans q));have c1:=Kz S;have a6:Hid (stepOf ⟨y.cost,y.steps⟩ r.at'=H):=by show _=_;unfold stepOf;rw[G,N];rfl
    have HA:=Kz M;clear T t W a5 U V N M S b3 a2 X Y;rw[G];have d2:=Kz G;clear G;dsimp only;refine b.out _ _ (fun _=>i.o _ q) ?_;clear b K;try simp only[Act.put,upA,upB,upC]
    refine af 9 (fun K b=>?_);go_simp
    refine b.out _ _ (fun _=>i.o _ q) ?_;clear b K;try simp only[Act.put,upA,upB,upC]
    refine af 10 (fun K b=>?_);go_simp
    refine b.out _ _ (fun _=>i.o _ q) ?_;clear b K;try simp only[Act.put,upA,upB,upC]
    refine af 11 (fun K b=>?_);go_simp
    refine b.out _ _ (fun _=>i.o _ q) ?_;clear b K;try simp only[Act.put,upA,upB,upC]
    refine af 12 (fun K b=>?_);go_simp
    refine b.out _ _ (fun _=>i.o _ q) ?_;clear b K;try simp only[Act.put,upA,upB,upC]
    refine af 15 (fun K b=>?_);go_simp
    refine b.out _ _ (fun _=>i.o _ q) ?_;clear b K;try simp only[Act.put,upA,upB,upC]
    refine af 16 (fun K b=>?_);go_simp
    refine b.out _ _ (fun _=>i.o _ q) ?_;clear b K;try simp only[Act.put,upA,upB,upC]
    refine ai 17 (fun K b=>?_);go_simp
    go_at_call 79
    refine (kF w2 kb (some ⟨nb,nq,none⟩) h c d j l H aa ac ca cc Z a9 b7 b8 b6.o c1.o c0.o b9.o).mono ?_;rintro e w3 ⟨⟨d3,n3,c3,ok,rfl,a7,a8⟩,k3⟩;have I:=q.trans k3;have⟨HY,c2⟩:=aD a7 a8;clear a7 a8 k3 t0 t1 t2 t3 t4 t5 t6 t7 n2;dsimp only;refine b.out _ _ (fun _=>i.o _ I) ?_;clear b K;try simp only[Act.put,upA,upB,upC]
    refine af 18 (fun K b=>?_);go_simp
    refine b.out _ _ (fun _=>i.o _ I) ?_;clear b K;try simp only[Act.put,upA,upB,upC]
    have k:=i.o _ I;refine ae 19 k ?_;refine ae 20 k ?_;refine af 21 (fun K b=>?_);go_simp
    refine b.out _ _ (fun _=>i.o _ I) ?_;clear b K;try simp only[Act.put,upA,upB,upC]
    refine af 22 (fun K b=>?_);go_simp
    refine b.out _ _ (fun B=>Ki rfl B) ?_;clear b K;try simp only[Act.put,upA,upB,upC]
    refine ay ?_;go_wp2
    go_ret
    refine⟨?_,C.o.trans I⟩;cases ok
    ·refine .no fun B=>?_
     rcases B.2 with B|⟨A',xs,s,h2⟩
     ·exact x B
     ·rw[HA.o] at s;cases s;rw[a6.o,c2.o rfl] at h2;cases h2
    ·obtain⟨xs,s,_⟩:=HY.o rfl;exact .yes ⟨D,.inr ⟨_,xs,HA.o,by rw[a6.o];exact s⟩⟩
   ·rw[M] at A;cases A
 ·rw[D] at O;go_wp2
  go_ret
  exact⟨.no (fun B=>(by have s:=B.1;rw[D] at s;cases s)),C.o⟩
def fB(W:dQ):List Q_->List KC->List Q_
 | l,[]=>l
 | l,a :: bs=>fB W (if (W a).isSome=true/\(Qq l a).isNone=true then l++ [Q_.fresh a] else l) bs
theorem Ez(l:List Q_)(x:Q_)(m:KC):Qq (l++ [x]) m=match Qq l m with | some r=>some r | none=>if x.name=m then some x else none:=by
 unfold Qq;rw[List.find?_append];cases h:l.find? fun r=>decide (r.name=m) with
 | some r=>rfl
 | none=>
  by_cases e:x.name=m
  ·simp[e]
  ·simp[e]
theorem qQ(W:dQ):∀(bs:List KC) (l:List Q_) (m:KC),Qq (fB W l bs) m=match Qq l m with | some r=>some r | none=>if ek bs m=true/\(W m).isSome=true then some (Q_.fresh m) else none
 | [],l,m=>by
  show Qq l m=_;cases Qq l m with
  | some r=>rfl
  | none=>simp[ek]
 | a :: bs,l,m=>by
  show Qq (fB W (if (W a).isSome=true/\(Qq l a).isNone=true then l++ [Q_.fresh a] else l) bs) m=_;rw[qQ W bs];have d:ek (a :: bs) m=true↔a=m\/ek bs m=true:=by simp[ek]
  by_cases e:(W a).isSome=true/\(Qq l a).isNone=true
  ·rw[Kg e,Ez];cases k:Qq l m with
   | some r=>rfl
   | none=>
    simp only;by_cases h:a=m
    ·subst h;have i:(Q_.fresh a).name=a:=rfl;rw[Kg i];simp only;rw[Kg ⟨d.2 (.inl rfl),e.1⟩]
    ·have i:(Q_.fresh a).name≠m:=h;rw[Kh i];simp only;by_cases b:ek bs m=true/\(W m).isSome=true
     ·rw[Kg b,Kg ⟨d.2 (.inr b.1),b.2⟩]
     ·rw[Kh b,Kh];rintro⟨j,f⟩;rcases d.1 j with c|c
      ·exact h c
      ·exact b ⟨c,f⟩
  ·rw[Kh e];cases k:Qq l m with
   | some r=>rfl
   | none=>
    simp only;by_cases b:ek bs m=true/\(W m).isSome=true
    ·rw[Kg b,Kg ⟨d.2 (.inr b.1),b.2⟩]
    ·rw[Kh b,Kh];rintro⟨j,f⟩;rcases d.1 j with c|c
     ·subst c;exact e ⟨f,by rw[k];rfl⟩
     ·exact b ⟨c,f⟩
theorem jQ(W:dQ):∀(bs:List KC) (l:List Q_),(∀x∈l,∀y∈l,x.name=y.name->x=y)->∀x∈fB W l bs,∀y∈fB W l bs,x.name=y.name->x=y
 | [],_,h=>h
 | a :: bs,l,h=>by
  show∀x∈fB W (if (W a).isSome=true/\(Qq l a).isNone=true then l++ [Q_.fresh a] else l) bs,∀y∈fB W (if (W a).isSome=true/\(Qq l a).isNone=true then l++ [Q_.fresh a] else l) bs,_;refine jQ W bs _ ?_;by_cases d:(W a).isSome=true/\(Qq l a).isNone=true
  ·rw[Kg d];have f:∀x∈l,x.name≠a:=fun x b e=>by
    have:=(sH h).2 ⟨b,e⟩;rw[this] at d;simp at d
   intro x b y c e;rcases Jh.1 b with b | b <;> rcases Jh.1 c with c | c
   ·exact h x b y c e
   ·rw[Jg] at c;subst c;exact Ki e (f x b)
   ·rw[Jg] at b;subst b;exact Ki e.symm (f y c)
   ·rw[Jg] at b c;rw[b,c]
  ·rw[Kh d];exact h
def doL(W:dQ)(l:List Q_)(r:Q_):List Q_:=(fB W (dz l (Xx W (Qq l) r).1) (Xx W (Qq l) r).2).foldl dz []
variable {W : dQ} {l : List Q_} {r : Q_}
theorem CB(h:cZ l):cZ (doL W l r):=(lu _ [] List.Pairwise.nil (jQ W _ _ (oZ (ny h)))).1
theorem yj{n:KC}(h:cZ l)(a:Qq l n=some r):Qq (doL W l r)=doX W (Qq l) n:=by
 funext m
 have c:r.name=n:=(bC a).2;have d:(Xx W (Qq l) r).1.name=n:=by rw[bZ];exact c
 unfold doL;rw[(lu _ [] List.Pairwise.nil (jQ W _ _ (oZ (ny h)))).2 m,qQ,tV h,gG a,d];by_cases e:m=n
 ·rw[Kg e,Kg e]
 ·rw[Kh e,Kh e];cases f:Qq l m with
  | some x=>rfl
  | none=>
   simp only;by_cases b:ek (Xx W (Qq l) r).2 m=true/\(W m).isSome=true
   ·rw[Kg b]
   ·rw[Kh b]
    rfl
structure fM (Kq:List Qz) (l:List Q_):Prop where
 asc:cZ l
 good:∀r∈l,r.Good Kq
variable {Kq : List Qz}
theorem fM.env(h:fM Kq l):dP Kq (Qq l):=fun _n r a=>⟨(bC a).2,h.good r (bC a).1⟩
theorem iD(c:bV (Kk Kq)){a:KC}(h:(Kk Kq a).isSome=true):(Q_.fresh a).Good Kq:=by
 obtain⟨A,b⟩:=Js.1 h;have e:=(c a A b).1.2.1.1;exact⟨⟨A,b,Int.le_refl _,by show (0:Int)<A.steps.length;omega⟩,Int.le_refl _,by show (0:Int)<=20;omega,by show ((([]:List KC).length:Nat):Int)<=5*0;simp,fun t d=>(by cases d),by show (⟨#[]⟩:KC).size<=200;decide,fun _ _ _ h=>Ki rfl h⟩
theorem Aa(c:bV (Kk Kq))(h:fM Kq l)(d:r∈l)(i:aV (Kk Kq) (Qq l) r):fM Kq (doL (Kk Kq) l r):=by
 refine⟨CB h.asc,fun x j=>?_⟩;have e:=bn h.asc d;have a:=bn (CB (W:=Kk Kq) (r:=r) h.asc) j;rw[yj h.asc e,gG e] at a;by_cases f:x.name=r.name
 ·rw[Kg f] at a;cases a;exact dU c h.env (h.good r d) i
 ·rw[Kh f] at a;cases b:Qq l x.name with
  | some y=>
   rw[b] at a;cases a;exact h.good x (bC b).1
  | none=>
   rw[b] at a;simp only at a
   split at a
   ·rename_i hc2
    have k:Q_.fresh x.name=x:=JR a;rw[<-k];exact iD c hc2.2
   ·cases a
inductive fH (W:dQ) (σ:Env):List Q_->List KC->Prop
 | nil:fH W σ [] []
 | yes {l:List Q_} {ns:List KC} {r:Q_} (h:fH W σ l ns) (hr:aV W σ r):fH W σ (l++ [r]) (ns++ [r.name])
 | no {l:List Q_} {ns:List KC} {r:Q_} (h:fH W σ l ns) (hr:¬aV W σ r):fH W σ (l++ [r]) ns
variable {ns : List KC}
theorem fH.mem{σ:Env}(h:fH W σ l ns)(n:KC):n∈ns↔∃r∈l,r.name=n/\aV W σ r:=by
 induction h with
 | nil=>simp
 | yes h hr ih=>
  rename_i l ns r
  rw[Jh,ih,Jg];constructor
  ·rintro (⟨x,a,b⟩|rfl)
   ·exact⟨x,Jh.2 (.inl a),b⟩
   ·exact⟨r,Jh.2 (.inr (by simp)),rfl,hr⟩
  ·rintro⟨x,a,b,d⟩;rcases Jh.1 a with a|a
   ·exact .inl ⟨x,a,b,d⟩
   ·rw[Jg] at a;subst a;exact .inr b.symm
 | no h hr ih=>
  rename_i l ns r
  rw[ih];constructor
  ·rintro⟨x,a,b⟩;exact⟨x,Jh.2 (.inl a),b⟩
  ·rintro⟨x,a,b,d⟩;rcases Jh.1 a with a|a
   ·exact⟨x,a,b,d⟩
   ·rw[Jg] at a;subst a;exact Ki d hr
theorem fH.nodup{σ:Env}(h:fH W σ l ns)(b:cZ l):ns.Nodup:=by
 induction h with
 | nil=>exact List.nodup_nil
 | yes h hr ih=>
  rename_i l ns r
  have c:=Jy.1 b;rw[List.nodup_append];refine⟨ih c.1,by simp, ?_⟩;intro a f j d;rw[Jg] at d;subst d;obtain⟨x,i,rfl,_⟩:=(h.mem a).1 f;exact dA (c.2.2 x i r (by simp))
 | no h hr ih=>exact ih (Jy.1 b).1
theorem fH.ready(h:fH W (Qq l) l ns)(c:cZ l)(n:KC):n∈ns↔dI W (Qq l) n:=by
 rw[h.mem];constructor
 ·rintro⟨r,a,rfl,b⟩;exact⟨r,bn c a,b⟩
 ·rintro⟨r,a,d⟩;obtain⟨b,e⟩:=bC a;exact⟨r,b,e,d⟩
theorem fH.len{σ:Env}(h:fH W σ l ns):ns.length<=l.length:=by
 induction h with
 | nil=>exact IZ _
 | yes _ _ ih=>simp only[JH,Kt];omega
 | no _ _ ih=>simp only[JH,Kt];omega
def b_(Kq:List Qz)(Kj:List KC):List Q_:=(fB (Kk Kq) [] Kj).foldl dz []
theorem tC(a:List Qz)(Kj:List KC):cZ (b_ a Kj):=(lu _ [] List.Pairwise.nil (jQ (Kk a) Kj [] (fun _ h=>by cases h))).1
theorem iG(b:List Qz)(Kj:List KC)(n:KC):Qq (b_ b Kj) n=if ek Kj n=true/\(Kk b n).isSome=true then some (Q_.fresh n) else none:=by
 unfold b_;rw[(lu _ [] List.Pairwise.nil (jQ (Kk b) Kj [] (fun _ h=>by cases h))).2 n,qQ];show (match (if ek Kj n=true/\(Kk b n).isSome=true then some (Q_.fresh n) else none) with | some r=>some r | none=>Qq [] n)=_
 split
 ·rename_i r h;rw[h]
 ·rename_i h;rw[h];rfl
theorem kL(c:bV (Kk Kq))(Kj:List KC):fM Kq (b_ Kq Kj):=by
 refine⟨tC Kq Kj,fun r d=>?_⟩;have a:=bn (tC Kq Kj) d;rw[iG] at a
 split at a
 ·rename_i h2
  have e:Q_.fresh r.name=r:=JR a;rw[<-e];exact iD c h2.2
 ·cases a
theorem fM.wf(h:fM Kq l):WfX (Kk Kq) (Qq l):=fun n r c=>by
 obtain⟨d,b⟩:=bC c;have a:=h.good r d;obtain⟨A,e,_⟩:=a.act;exact⟨b,by rw[<-b,e];rfl,a.lo,a.hi⟩
theorem nZ{n:KC}(h:(Kk Kq n).isSome=true):n∈Kq.map (·.name):=by
 obtain⟨A,c⟩:=Js.1 h;obtain⟨k,a,e,_⟩:=fI c;rw[Ju];refine⟨Kq.getD k Qz.zero, ?_,e⟩;simp only[List.getD,Jd a,Kl];exact Ji a
def oU(Kq:List Qz)(l:List Q_):Nat:=dO (Kq.map (·.name)) (Qq l)
theorem Gf{n:KC}(h:fM Kq l)(b:Qq l n=some r)(c:aV (Kk Kq) (Qq l) r):oU Kq (doL (Kk Kq) l r)<oU Kq l:=by
 unfold oU;rw[yj h.asc b];exact (lF h.wf ⟨r,b,c⟩ _).2 (nZ (h.wf n r b).web)
theorem wZ(h:cZ l):(l.map (·.name)).Nodup:=by
 rw[List.Nodup,List.pairwise_map];exact h.imp fun b=>dA b
theorem fM.len(h:fM Kq l):l.length<=Kq.length:=by
 have c:=List.Nodup.length_le_of_subset (wZ h.asc) (l₂:=Kq.map (·.name)) (fun n d=>by
  obtain⟨r,e,rfl⟩:=Ju.1 d;exact nZ (h.wf r.name r (bn h.asc e)).web)
 simpa using c
theorem Ci{σ:Env}(e:ns.Nodup){i:Nat}(b:i<ns.length)(h:∀j,i<=j->j<ns.length->dI W σ (ns.getD j ByteArray.empty)):∀j,i+1<=j->j<ns.length->dI W (doX W σ (ns.getD i ByteArray.empty)) (ns.getD j ByteArray.empty):=by
 intro j f c;refine (pY σ _ _ ?_ (h i (IZ _) b) (h j (by omega) c)).1;simp only[List.getD,Jd b,Jd c,Kl];exact Jj.1 e i j b c (by omega)
def GU(Kq:List Qz)(Kj:List KC)(sl:List Q_):Prop:=
 ∃k L,fM Kq L/\bI (Behind (W:=Kk Kq) a_ (Qq sl)) (doX (Kk Kq)) (Qq (b_ Kq Kj)) (Qq L) k/\AtEnd (Behind (W:=Kk Kq) a_ (Qq sl)) (Qq L)/\L=sl
theorem D_{Kj:List KC}{a L:List Q_}{k:Nat}(b:fM Kq L)(c:bI (Behind (W:=Kk Kq) a_ (Qq a)) (doX (Kk Kq)) (Qq (b_ Kq Kj)) (Qq L) k)(d:AtEnd (Behind (W:=Kk Kq) a_ (Qq a)) (Qq L)):L=a↔GU Kq Kj a:=by
 constructor
 ·intro h;exact⟨k,L,b,c,d,h⟩
 ·rintro⟨j,l,e,f,i,rfl⟩;exact FB b.asc e.asc (bI.unique (gM _ _) c d f i)
structure gm (Kq:List Qz) (G:Env) (σ0:Env) (ns:List KC) (l0 l:List Q_) (i:Nat) (b:Bool):Prop where
 good:fM Kq l
 led:∃k,bI (Behind (W:=Kk Kq) a_ G) (doX (Kk Kq)) σ0 (Qq l) k
 rest:∀j,i<=j->j<ns.length->dI (Kk Kq) (Qq l) (ns.getD j ByteArray.empty)
 no:b=false->l=l0/\∀j,j<i->¬Behind (W:=Kk Kq) a_ G (Qq l0) (ns.getD j ByteArray.empty)
 yes:b=true->oU Kq l<oU Kq l0
variable {σ0 : Env} {l0 : List Q_}
theorem gm.start{G:Env}(b:fM Kq l0)(c:∃k,bI (Behind (W:=Kk Kq) a_ G) (doX (Kk Kq)) σ0 (Qq l0) k)(d:fH (Kk Kq) (Qq l0) l0 ns):gm Kq G σ0 ns l0 l0 0 false:=
 ⟨b,c,fun j _ a=>by
  rw[<-d.ready b.asc];simp only[List.getD,Jd a,Kl];exact Ji a,fun _=>⟨rfl,fun j a=>aP a⟩,fun h=>by cases h⟩
theorem gm.skip{G:Env}{i:Nat}{b:Bool}(h:gm Kq G σ0 ns l0 l i b)(c:¬Behind (W:=Kk Kq) a_ G (Qq l) (ns.getD i ByteArray.empty)):gm Kq G σ0 ns l0 l (i+1) b:=
 ⟨h.good,h.led,fun j d e=>h.rest j (by omega) e,fun a=>⟨(h.no a).1,fun j d=>by
  by_cases f:j=i
  ·subst f;rw[<-(h.no a).1];exact c
  ·exact (h.no a).2 j (by omega)⟩,h.yes⟩
theorem gm.did(k:bV (Kk Kq)){G:Env}(m:ns.Nodup){i:Nat}{b:Bool}(h:gm Kq G σ0 ns l0 l i b)(n:i<ns.length)(c:Behind (W:=Kk Kq) a_ G (Qq l) (ns.getD i ByteArray.empty))(a:Qq l (ns.getD i ByteArray.empty)=some r):gm Kq G σ0 ns l0 (doL (Kk Kq) l r) (i+1) true:=by
 obtain⟨p,q⟩:=h.led;obtain⟨⟨s,d,e⟩,_⟩:=c;have c:Behind (W:=Kk Kq) a_ G (Qq l) (ns.getD i ByteArray.empty):=⟨⟨s,d,e⟩,by assumption⟩;rw[a] at d;cases d;have f:=yj (W:=Kk Kq) h.good.asc a;have j:=Gf h.good a e;refine⟨Aa k h.good (bC a).1 e,⟨p+1,by rw[f];exact q.snoc c⟩,fun t v w=>by rw[f];exact Ci m n h.rest t v w,fun x=>(by cases x),fun _=>?_⟩;cases b with
 | true=>have:=h.yes rfl;omega
 | false=>rw[(h.no rfl).1] at j⊢;exact j
theorem gm.FU{G:Env}(d:fM Kq l0)(e:fH (Kk Kq) (Qq l0) l0 ns)(h:gm Kq G σ0 ns l0 l ns.length false):l=l0/\AtEnd (Behind (W:=Kk Kq) a_ G) (Qq l):=by
 obtain⟨b,f⟩:=h.no rfl;refine⟨b,fun n a=>?_⟩;rw[b] at a;have i:=(e.ready d.asc n).2 a.1;obtain⟨j,c,k⟩:=Jk i;have:=f j c;simp only[List.getD,Jd c,Kl,k] at this;exact this a
theorem Tryz.dh :(prog.info? 9).map (fun i=>(i.zero,i.size,i.bytes))=some (some (.string ByteArray.empty),1,16):=by kernel_rfl
variable {l : List KC} {v : KI} {w : KH}
theorem su{base:Nat}{t:TypeId}{n:Nat}(h:w.ownsRow base t 1 v n (l.map Value.string)):∃a b,v= .slice a l.length b/\l.length<=b/\Strs w a l:=by
 have d:n=l.length:=by have:=h.1;simp at this;omega
 subst d;rcases h.2 with⟨rfl,e⟩|⟨g,b,k,rfl,m,f,j,_,_,_⟩
 ·exact⟨none,0,by rw[e],by omega,fun i c=>by omega⟩
 ·refine⟨_,b,rfl,j,fun i c=>⟨g,0,rfl,aN f, ?_⟩⟩;have:=h.cells (g:=g) rfl i (.string (l.getD i ByteArray.empty)) (by simp[List.getD,c]);rw[JL] at this;exact this
theorem vZ{l:List Q_}{i:Nat}(h:i<l.length):l.take (i+1)=l.take i++ [l.getD i Q_.zero]:=by
 rw[Jf h];simp[List.getD,h]
def DF(n0:Nat)(Kq:List Qz)(l:List Q_)(w':KH)(e:Ending):Prop:=∃(da:KG) (c:Nat) (ns:List KC),e= .returned (.slice da ns.length c)/\fH (Kk Kq) (Qq l) l ns/\w'.ownsRow n0 9 1 (.slice da ns.length c) ns.length (ns.map Value.string)
theorem qX(w:KH)(a:KG)(m:Nat)(f:List Qz)(p:KG)(q s:Nat)(d:KG)(t:Nat)(l:List Q_)(a6:f.length<=1048576)(a7:l.length<=1048576)(a8:gT f)
  (a9:∀r∈l,r.over=false->r.Zq≠0->EU f r) (hN:bY w a f) (S:bK w d l):
  Calls prog 49 #[.agg #[.slice a f.length m],.agg #[.slice p q s,.slice d l.length t]] w fun e w'=>DF w.heap.size f l w' e/\K_ w w':=by
 obtain⟨c,v⟩:=ah ((w.alloc (.cells #[.slice a f.length m] 25)).alloc (.cells #[.slice p q s,.slice d l.length t] 29));have T:K_ w c:=by rw[v];exact (ag _ _).alloc _
 have b0:c.heap.size=w.heap.size+2:=by rw[v];simp
 have b1:c.cell? ⟨w.heap.size,0,none⟩=some (.slice a f.length m):=by rw[v,K_.cell (w:=w.alloc (.cells #[.slice a f.length m] 25)) (ag _ _) (by simp)];exact X_ w _ _ 0 _ rfl
 have s0:c.cell? ⟨w.heap.size+1,0,none⟩=some (.slice p q s):=by have:=X_ (w.alloc (.cells #[.slice a f.length m] 25)) #[.slice p q s,.slice d l.length t] 29 0 _ rfl;rw[JG] at this;rw[v];exact this
 have s1:c.cell? ⟨w.heap.size+1,1,none⟩=some (.slice d l.length t):=by have:=X_ (w.alloc (.cells #[.slice a f.length m] 25)) #[.slice p q s,.slice d l.length t] 29 1 _ rfl;rw[JG] at this;rw[v];exact this
 have U:w.heap.size<c.heap.size:=by omega
 have J:w.heap.size+1<c.heap.size:=by omega
 have V:K_ c (c.alloc (.cells #[] 9)):=ag _ _;have W:Hid ((c.alloc (.cells #[] 9)).ownsRow c.heap.size 9 1 (.slice (some ⟨c.heap.size,0,none⟩) 0 0) 0 (([]:List KC).map Value.string)):=Jz c #[] 0 (IZ _) (Ja _) rfl;have C:=Kz T;clear T b0;go_enter func49,ntmps49
 go_upto_region 1 with fail
 rw[<-v];clear v;go_wp2
 go_loopg [5,6] l.length (fun gg x5 x6 wr=>∃(i:Nat) (h:List KC),x6= .int .i64 (i:Int)/\i+gg=l.length/\h.length<=i/\Hid (fH (Kk f) (Qq l) (l.take i) h)/\K_ c wr/\Hid (wr.ownsRow c.heap.size 9 1 x5 h.length (h.map Value.string)))
 case atStart=>exact⟨0,[],rfl,by omega,IZ _,Kz .nil,V,W⟩
 case round=>
  clear W V;obtain⟨i,h,rfl,hi,c5,L,j,D⟩:=hrel;obtain⟨X,Y,rfl⟩:=ax D.o;have Z:=(j.cell U).trans b1;have c1:=(j.cell J).trans s0;have c2:=(j.cell J).trans s1;have y0:w.heap.size<wr.heap.size:=I_ U j.size;have M:w.heap.size+1<wr.heap.size:=I_ J j.size;by_cases b2:(i:Int)<(l.length:Int)
  ·have E:i<l.length:=by omega
   obtain⟨b,o,xa,xc,rfl,n,k,hT,hx⟩:=(S.kept (C.o.trans j)) i E;obtain⟨r,F⟩:=ah (l.getD i Q_.zero);rw[<-F] at k hT;have b3:r∈l:=by rw[F];simp[List.getD,E]
   have N:=k 0 _ rfl;have t1:=k 1 _ rfl;have t2:=k 2 _ rfl;have t3:=k 3 _ rfl;have t4:=k 4 _ rfl;have t5:=k 5 _ rfl;have t6:=k 6 _ rfl;rw[JM] at N;have a0:=Kz F;clear k F;have a1:Hid (∀w',K_ wr w'->w'.cell? ⟨w.heap.size,0,none⟩=some (.slice a f.length m)/\w'.cell? ⟨w.heap.size+1,0,none⟩=some (.slice p q s)/\w'.cell? ⟨w.heap.size+1,1,none⟩=some (.slice (some ⟨b,o,none⟩) l.length t)/\w'.cell? ⟨b,o+i*7,none⟩=some (.string r.name)/\w'.cell? ⟨b,o+i*7+1,none⟩=some (.bool r.over)/\w'.cell? ⟨b,o+i*7+2,none⟩=some (.bool r.fail)/\w'.cell? ⟨b,o+i*7+3,none⟩=some (.string r.text)/\w'.cell? ⟨b,o+i*7+4,none⟩=some (.int .i64 r.at')/\w'.cell? ⟨b,o+i*7+5,none⟩=some (.int .i64 r.Zq)/\w'.cell? ⟨b,o+i*7+6,none⟩=some (.slice xa r.texts.length xc)):=fun w' K=>⟨(K.cell y0).trans Z,(K.cell M).trans c1,(K.cell M).trans c2,(K.cell n).trans N,(K.cell n).trans t1,(K.cell n).trans t2,(K.cell n).trans t3,(K.cell n).trans t4,(K.cell n).trans t5,(K.cell n).trans t6⟩
   go_upto_region 5 with fail
   refine bS 7 a1.o fun wd O A=>?_
   refine aB 0 A ?_;refine ae 4 A ?_;refine ae 5 A ?_;refine ae 6 A ?_;refine ai 7 (fun K G=>?_);go_simp
   go_at_call 87
   refine (xq wd a m f p q s (some ⟨b,o,none⟩) t l r xa xc a6 a7 a8 (a9 r b3) (hN.kept (C.o.trans (j.trans O))) (S.kept (C.o.trans (j.trans O)))).mono ?_;rintro e x ⟨P,k3⟩;have y:=O.trans k3;clear k3;rcases P.cases with⟨rfl,a2⟩|⟨rfl,a3⟩
   ·dsimp only;refine G.out _ _ (fun B=>absurd rfl B) ?_;clear G K A;try simp only[Act.put,upA,upB,upC]
    refine ay ?_;have HY:=Kz a2;clear a2 P N t1 t2 t3 t4 t5 t6 Z c1 c2;obtain⟨u0,u1,u2,v0,_⟩:=a1.o _ y;have c6:=I_ n y.size;have c7:=I_ M y.size;have Q:K_ x (x.alloc (.cells #[.string r.name] 9)):=ag _ _;have a4:=Kz (aj D.o (y.trans Q));have KK:=Kz (j.trans (y.trans Q));have b4:c.heap.size<=(x.alloc (.cells #[.string r.name] 9)).heap.size:=KK.out.size;have b5:Hid (∀H u,([.string r.name]:List KI)[H]? =some u->(x.alloc (.cells #[.string r.name] 9)).cell? ((⟨x.heap.size,0,none⟩:Addr).add H)=some u):=fun H u I=>by rw[JL];exact X_ x #[.string r.name] 9 H u I
    have b6:Hid (∀u∈([.string r.name]:List KI),u.oneCell'=true):=fun u I=>by simp only[JN,JO,or_false] at I;subst I;rfl
    have c8:h.length<=1048576:=by omega
    have c9:(i:Int)<(l.length:Int):=b2;obtain⟨ic,b7,b8,b9,c0⟩:=aO Tryz.dh;clear Q;go_wp2_with (at_builtin;refine wpList_append_own _ rfl (.tmp 23) (.tmp 30) 26 rfl c.heap.size 9 ic _ 1 16 underlying26 b7 b8 b9 c0 rfl (by decide) (.slice X h.length Y) h.length (h.map Value.string) rfl a4.o ⟨x.heap.size,0,none⟩ 1 1 [.string r.name] rfl rfl b5.o b6.o (by unfold maxLen;omega) (by omega) b4 ?_;intro v' w6 R a5 _;have KP:=aF KK.out (IZ _) a4.o a5;have HP:=Kz R;obtain⟨d0,d1,rfl⟩:=ax R;clear R a5)
    go_roundg (gk-1)
    case measure=>omega
    case rel=>exact⟨i+1,h++ [r.name],by go_num,by omega,by rw[JH];show h.length+1<=i+1;omega,Kz (by rw[vZ E,<-a0.o];exact L.o.yes HY.o),KP,Kz (by rw[Km,JH];exact HP.o)⟩
   ·dsimp only;refine G.out _ _ (fun B=>absurd rfl B) ?_;clear G K A;try simp only[Act.put,upA,upB,upC]
    refine ay ?_;have c3:=Kz a3;clear a3 P;go_wp2
    go_roundg (gk-1)
    case measure=>omega
    case rel=>exact⟨i+1,h,by go_num,by omega,by omega,Kz (by rw[vZ E,<-a0.o];exact L.o.no c3.o),j.trans y,Kz (aj D.o y)⟩
  ·have c4:i=l.length:=by omega
   have HT:=Kz (bJ (base':=w.heap.size) D.o C.o.size);go_wp2
   go_ret
   refine⟨⟨X,Y,h,rfl, ?_,HT.o⟩,C.o.trans j⟩;have B:=L.o;rw[c4,JB] at B;exact B
theorem kK(l:List Xz)(x:Xz):aL (l++ [x])=aL l++if x.fail=true then [] else [x.text]:=by
 unfold aL;rw[List.filter_append,Km];cases a:x.fail <;> simp[a]
def EL(xs:List Xz)(w':KH)(e:Ending):Prop:=∃(g c:Nat),e= .returned (.slice (some ⟨g,0,none⟩) (aL xs).length c)/\Strs w' (some ⟨g,0,none⟩) (aL xs)
theorem t_(w:KH)(d:KG)(H:Nat)(a:List Xz)(a1:a.length<=1000)(I:ed w d a):
  Calls prog 119 #[.slice d a.length H] w fun e w'=>EL a w' e/\K_ w w':=by
 have v:K_ w (w.alloc (.cells #[] 9)):=ag _ _;have y:Hid ((w.alloc (.cells #[] 9)).ownsRow w.heap.size 9 1 (.slice (some ⟨w.heap.size,0,none⟩) 0 0) 0 (([]:List KC).map Value.string)):=Jz w #[] 0 (IZ _) (Ja _) rfl;go_enter func119,ntmps119
 go_wp2
 go_loopg [3,4] a.length (fun J K L wr=>∃(i:Nat) (g b:Nat),K= .slice (some ⟨g,0,none⟩) (aL (a.take i)).length b/\L= .int .i64 (i:Int)/\i+J=a.length/\(aL (a.take i)).length<=i/\K_ w wr/\Hid (wr.ownsRow w.heap.size 9 1 (.slice (some ⟨g,0,none⟩) (aL (a.take i)).length b) (aL (a.take i)).length ((aL (a.take i)).map Value.string)))
 case atStart=>exact⟨0,w.heap.size,0,rfl,rfl,by omega,IZ _,v,y⟩
 case round=>
  clear y v;obtain⟨i,g,b,rfl,rfl,hi,M,h,f⟩:=hrel;by_cases a2:(i:Int)<(a.length:Int)
  ·have p:i<a.length:=by omega
   obtain⟨a3,o,rfl,hb,j⟩:=(I.kept h) i p;obtain⟨x,q⟩:=ah (a.getD i Xz.zero);rw[<-q] at j;have r:=j 0 _ rfl;have t1:=j 1 _ rfl;rw[JM] at r;have k:Hid (a.take (i+1)=a.take i++ [x]):=by show _=_;rw[Jf p,q];simp[List.getD,p]
   obtain⟨c,s⟩:=ah (aL (a.take i));rw[<-s] at M f⊢;have A:=Kz s;clear j q s;cases l:x.fail
   ·rw[l] at r;have t:K_ wr (wr.alloc (.cells #[.string x.text] 9)):=ag _ _;have B:=Kz (aj f.o t);have C:=Kz (h.trans t);have N:w.heap.size<=(wr.alloc (.cells #[.string x.text] 9)).heap.size:=C.out.size;have O:Hid (∀m u,([.string x.text]:List KI)[m]? =some u->(wr.alloc (.cells #[.string x.text] 9)).cell? ((⟨wr.heap.size,0,none⟩:Addr).add m)=some u):=fun m u n=>by rw[JL];exact X_ wr #[.string x.text] 9 m u n
    have P:Hid (∀u∈([.string x.text]:List KI),u.oneCell'=true):=fun u n=>by simp only[JN,JO,or_false] at n;subst n;rfl
    obtain⟨Q,R,S,T,U⟩:=aO Tryz.dh;clear t;go_wp2_with (at_builtin;refine wpList_append_lies _ rfl (.tmp 18) (.tmp 24) 26 rfl w.heap.size 9 Q _ 1 16 underlying26 R S T U rfl (by decide) (.slice (some ⟨g,0,none⟩) c.length b) c.length (c.map Value.string) rfl B.o ⟨wr.heap.size,0,none⟩ 1 1 [.string x.text] rfl rfl O.o P.o (by omega) (by unfold maxLen;omega) (by omega) N _ rfl ?_;intro V W w6 D E X Y;have Z:=aF C.out (IZ _) B.o E;have HP:=Kz D;clear D E X Y)
    go_roundg (gk-1)
    case measure=>omega
    case rel=>
     have e:aL (a.take (i+1))=c++ [x.text]:=by rw[k.o,kK,<-A.o,l];rfl
     exact⟨i+1,V,W,by rw[e,JH];rfl,by go_num,by omega,by rw[e,JH];show c.length+1<=i+1;omega,Z,Kz (by rw[e,Km,JH];exact HP.o)⟩
   ·rw[l] at r;go_wp2
    go_roundg (gk-1)
    case measure=>omega
    case rel=>
     have e:aL (a.take (i+1))=c:=by rw[k.o,kK,<-A.o,l];simp
     exact⟨i+1,g,b,by rw[e],by go_num,by omega,by rw[e];omega,h,Kz (by rw[e];exact f.o)⟩
  ·have a0:i=a.length:=by omega
   have e:aL (a.take i)=aL a:=by rw[a0,JB]
   rw[e] at f⊢;obtain⟨d2,c2,F,a4,G⟩:=su f.o;simp only[JJ,true_and] at F;obtain⟨rfl,rfl⟩:=F;have k:=Kz G;clear G e;go_wp2
   go_ret
   exact⟨⟨g,b,rfl,k.o⟩,h⟩
theorem Tryz.eU :(prog.info? 40).map (·.size)=some 7:=by kernel_rfl
theorem lI{b o n:Nat}{cs:List KI}(h:w.rangeAt b 0 cs)(d:Row w b n)(f:o<n)(v:KI):(w.setCell ⟨b,o,none⟩ v).rangeAt b 0 (cs.set o v):=by
 intro j u a;rw[JA];rw[List.getElem?_set] at a;by_cases e:o=j
 ·subst e;rw[Kg rfl] at a;by_cases c:o<cs.length
  ·rw[Kg c] at a;cases a;exact aS d f _
  ·rw[Kh c] at a;cases a
 ·rw[Kh e] at a;rw[Xk e];have:=h j u a;rw[JA] at this;exact this
structure eZ (w:KH) (b:Nat) (r:Q_) (xa:KG) (xc:Nat):Prop where
 row:au w b 40 7
 rng:w.rangeAt b 0 (r.cells xa xc)
variable {xc : Nat} {xa : KG} {r : Q_}
theorem eZ.all{b:Nat}(h:eZ w b r xa xc):w.cell? ⟨b,0,none⟩=some (.string r.name)/\w.cell? ⟨b,1,none⟩=some (.bool r.over)/\w.cell? ⟨b,2,none⟩=some (.bool r.fail)/\w.cell? ⟨b,3,none⟩=some (.string r.text)/\w.cell? ⟨b,4,none⟩=some (.int .i64 r.at')/\w.cell? ⟨b,5,none⟩=some (.int .i64 r.Zq)/\w.cell? ⟨b,6,none⟩=some (.slice xa r.texts.length xc):=by
 have a:∀j v,(r.cells xa xc)[j]? =some v->w.cell? ⟨b,j,none⟩=some v:=fun j v f=>by have:=h.rng j v f;rw[JA] at this;exact this
 exact⟨a 0 _ rfl,a 1 _ rfl,a 2 _ rfl,a 3 _ rfl,a 4 _ rfl,a 5 _ rfl,a 6 _ rfl⟩
theorem eZ.kept{w':KH}{b:Nat}(h:eZ w b r xa xc)(k:K_ w w'):eZ w' b r xa xc:=⟨h.row.kept k,k.range h.row.lt h.rng⟩
theorem eZ.put{b:Nat}{r':Q_}{xa':KG}{xc' o:Nat}(h:eZ w b r xa xc)(c:o<7)(e:r'.cells xa' xc'= (r.cells xa xc).set o v):eZ (w.setCell ⟨b,o,none⟩ v) b r' xa' xc':=⟨h.row.set _,by rw[e];exact lI h.rng h.row.row c v⟩
def dS(n0:Nat)(w:KH)(c:Nat)(a:KG)(l:List KC):Prop:=∀i,i<l.length->∃b o,a=some ⟨b,o,none⟩/\b<w.heap.size/\(b<n0\/c+2<=b)/\w.cell? ⟨b,o+i,none⟩=some (.string (l.getD i ByteArray.empty))
variable {c n0 : Nat} {a : KG}
theorem dS.strs(h:dS n0 w c a l):Strs w a l:=fun i d=>by
 obtain⟨b,o,e,f,_,j⟩:=h i d;exact⟨b,o,e,f,j⟩
theorem dS.kept{w':KH}(h:dS n0 w c a l)(k:K_ w w'):dS n0 w' c a l:=fun i d=>by
 obtain⟨f,o,e,b,j,m⟩:=h i d;exact⟨f,o,e,I_ b k.size,j,(k.cell b).trans m⟩
theorem dS.set{p:Nat}(m:n0<=c)(h:dS n0 w c a l)(v:KI):dS n0 (w.setCell ⟨c,p,none⟩ v) c a l:=fun i d=>by
 obtain⟨b,o,e,f,j,k⟩:=h i d;exact⟨b,o,e,by rw[size_setCell];exact f,j,by rw[Zj (by omega)];exact k⟩
theorem dS.set1{p:Nat}(m:n0<=c)(h:dS n0 w c a l)(v:KI):dS n0 (w.setCell ⟨c+1,p,none⟩ v) c a l:=fun i d=>by
 obtain⟨b,o,e,f,j,k⟩:=h i d;exact⟨b,o,e,by rw[size_setCell];exact f,j,by rw[Zj (by omega)];exact k⟩
theorem dS.sets(b:n0<=c):∀(vs:List KI) (p:Nat) {w:KH},dS n0 w c a l->dS n0 (w.setCells (c+1) p vs) c a l
 | [],_,_,h=>h
 | v :: r,p,_,h=>by rw[World.setCells];exact dS.sets b r (p+1) (h.set1 b v)
theorem dS.old{w':KH}(h:Strs w a l)(k:K_ w w')(m:w.heap.size<=n0):dS n0 w' c a l:=fun i d=>by
 obtain⟨f,o,e,b,j⟩:=h i d;exact⟨f,o,e,I_ b k.size,by omega,(k.cell b).trans j⟩
theorem dS.owned{base:Nat}{t:TypeId}{n:Nat}(h:w.ownsRow base t 1 v n (l.map Value.string))(m:c+2<=base):∃a b,v= .slice a l.length b/\dS n0 w c a l/\(a=none->b=0):=by
 have f:n=l.length:=by have:=h.1;simp at this;omega
 subst f;rcases h.2 with⟨rfl,j⟩|⟨g,b,p,rfl,q,k,r,_,_,_⟩
 ·exact⟨none,0,by rw[j],(fun i d=>by omega),fun _=>rfl⟩
 ·refine⟨_,b,rfl,(fun i d=>⟨g,0,rfl,aN k,by omega, ?_⟩),fun e=>by cases e⟩;have:=h.cells (g:=g) rfl i (.string (l.getD i ByteArray.empty)) (by simp[List.getD,d]);rw[JL] at this;exact this
structure NSt (n0:Nat) (w wr:KH) (ab:Nat) (cost:Int) (sa:KG) (sn sc:Nat) (r:Q_) (xa:KG) (xc:Nat):Prop where
 kw:K_ w wr
 box:eZ wr (w.heap.size+2) r xa xc
 res:au wr (w.heap.size+2+1) 40 7
 a0:wr.cell? ⟨ab,0,none⟩=some (.int .i64 cost)
 a1:wr.cell? ⟨ab,1,none⟩=some (.slice sa sn sc)
 abl:w.heap.size+4<=ab
 abz:ab<wr.heap.size
 low:n0<=w.heap.size
 txt:dS n0 wr (w.heap.size+2) xa r.texts
 nil:xa=none->xc=0
section
variable {n0 : Nat} {w wr w' : KH} {ab : Nat} {cost : Int} {sa : KG} {sn sc : Nat} {r r' : Q_} {xa xa' : KG} {xc xc' : Nat}
theorem NSt.kept(h:NSt n0 w wr ab cost sa sn sc r xa xc)(k:K_ wr w'):NSt n0 w w' ab cost sa sn sc r xa xc:=
 ⟨h.kw.trans k,h.box.kept k,h.res.kept k,(k.cell h.abz).trans h.a0,(k.cell h.abz).trans h.a1,h.abl,I_ h.abz k.size,h.low,h.txt.kept k,h.nil⟩
theorem NSt.Io(h:NSt n0 w wr ab cost sa sn sc r xa xc){o:Nat}(b:o<7)(e:r'.cells xa' xc'= (r.cells xa xc).set o v)(c:dS n0 wr (w.heap.size+2) xa' r'.texts)(d:xa'=none->xc'=0):NSt n0 w (wr.setCell ⟨w.heap.size+2,o,none⟩ v) ab cost sa sn sc r' xa' xc':=by
 have a:ab≠w.heap.size+2:=by have:=h.abl;omega
 have f:w.heap.size+2+1≠w.heap.size+2:=by omega
 exact⟨Below.setCell h.kw (p:=⟨w.heap.size+2,o,none⟩) (by show w.heap.size<=w.heap.size+2;omega) v,h.box.put b e,h.res.block (Below.heap_setCell _ _ _ _ f),by rw[Zj a];exact h.a0,by rw[Zj a];exact h.a1,h.abl,by rw[size_setCell];exact h.abz,h.low,c.set (by have:=h.low;omega) v,d⟩
theorem NSt.put(h:NSt n0 w wr ab cost sa sn sc r xa xc){o:Nat}(b:o<7)(e:r'.cells xa xc= (r.cells xa xc).set o v)(c:r'.texts=r.texts):NSt n0 w (wr.setCell ⟨w.heap.size+2,o,none⟩ v) ab cost sa sn sc r' xa xc:=
 h.Io b e (by rw[c];exact h.txt) h.nil
end
theorem NSt.made{b c:KH}{a:Nat}{cost:Int}{e:KG}{f h:Nat}(k:K_ w b)(v:b.heap.size=w.heap.size+4)(K:K_ b c)(m:eZ b (w.heap.size+2) r xa xc)(n:au b (w.heap.size+2+1) 40 7)(q:n0<=w.heap.size)(s:dS n0 b (w.heap.size+2) xa r.texts)(t:xa=none->xc=0)(j:b.heap.size<=a)(i:au c a 77 2):
  K_ b ((c.setCell ⟨a,0,none⟩ (.int .i64 cost)).setCell ⟨a,1,none⟩ (.slice e f h))/\NSt n0 w ((c.setCell ⟨a,0,none⟩ (.int .i64 cost)).setCell ⟨a,1,none⟩ (.slice e f h)) a cost e f h r xa xc:=by
 have d:K_ b ((c.setCell ⟨a,0,none⟩ (.int .i64 cost)).setCell ⟨a,1,none⟩ (.slice e f h)):=Below.setCell (Below.setCell K (p:=⟨a,0,none⟩) j _) (p:=⟨a,1,none⟩) j _;refine⟨d,k.trans d,m.kept d,n.kept d,(Xk (by omega) _).trans (aS i.row (by omega) _),aS (i.set _).row (by omega) _,by omega, ?_,q,s.kept d,t⟩;rw[size_setCell,size_setCell];exact i.lt
def tF(n0 c:Nat)(W:dQ)(σ:Env)(r:Q_)(w':KH)(e:Ending):Prop:=
 ∃(xa':KG) (xc':Nat) (ka:KG) (kc:Nat),e= .returned (.tuple #[.agg ((Xx W σ r).1.cells xa' xc').toArray,.slice ka (Xx W σ r).2.length kc])/\dS n0 w' c xa' (Xx W σ r).1.texts/\(xa'=none->xc'=0)/\dS n0 w' c ka (Xx W σ r).2
theorem bT{g:Nat}(a:w.heap.size<=g):∀(vs:List KI) (o:Nat) {u:KH},K_ w u->K_ w (u.setCells g o vs)
 | [],_,_,h=>h
 | v :: r,o,_,h=>by rw[World.setCells];exact bT a r (o+1) (Below.setCell h (p:=⟨g,o,none⟩) a v)
theorem NSt.ends{W:dQ}{σ:Env}{wr:KH}{f:Nat}{cost:Int}{i:KG}{j k:Nat}{r':Q_}{asks:List KC}{a:KG}{c d:Nat}{e:Ending}(h:NSt n0 w wr f cost i j k r' xa xc)(b:Xx W σ r= (r',asks))(l:dS n0 wr (w.heap.size+2) a asks)(m:c=asks.length)
 (n:e= .returned (.tuple #[.agg (r'.cells xa xc).toArray,.slice a c d])):tF n0 (w.heap.size+2) W σ r (wr.setCells (w.heap.size+2+1) 0 (r'.cells xa xc)) e/\K_ w (wr.setCells (w.heap.size+2+1) 0 (r'.cells xa xc)):=by
 refine⟨⟨xa,xc,a,d, ?_, ?_,h.nil, ?_⟩,bT (by omega) _ _ h.kw⟩
 ·rw[b,n,m]
 ·rw[b];exact h.txt.sets (by have:=h.low;omega) _ _
 ·rw[b];exact l.sets (by have:=h.low;omega) _ _
theorem Tryz.nQ :(prog.info? 40).map (fun i=>(i.zero,i.size,i.bytes))=some (some (.agg #[.string ⟨#[]⟩,.bool false,.bool false,.string ⟨#[]⟩,.int .i64 0,.int .i64 0,.slice none 0 0]),7,80):=by kernel_rfl
def lW(w:KH)(P:Nat->Prop)(a:KG)(l:List Q_):Prop:=
 ∀i,i<l.length->∃b o xa xc,a=some ⟨b,o,none⟩/\b<w.heap.size/\w.rangeAt b (o+i*7) ((l.getD i Q_.zero).cells xa xc)/\Strs w xa (l.getD i Q_.zero).texts/\(xa=none->xc=0)/\(∀ad:Addr,xa=some ad->P ad.block)
variable {l : List Q_} {P : Nat -> Prop} {a : KG} {w w' : KH}
theorem lW.kept(h:lW w P a l)(k:K_ w w'):lW w' P a l:=by
 intro i c;obtain⟨d,o,e,f,j,b,m,n,p⟩:=h i c;exact⟨d,o,e,f,j,I_ b k.size,k.range b m,n.kept k,p⟩
theorem lW.runs(h:lW w P a l):bK w a l:=by
 intro i c;obtain⟨b,o,d,f,e,j,k,m,n,_⟩:=h i c;exact⟨b,o,d,f,e,j,k,m,n⟩
theorem bK.all(h:bK w a l):lW w (fun _=>True) a l:=by
 intro i c;obtain⟨b,o,d,f,e,j,k,m,n⟩:=h i c;exact⟨b,o,d,f,e,j,k,m,n,fun _ _=>trivial⟩
def aZ(w:KH)(P:Nat->Prop)(xs:List KI)(l:List Q_):Prop:=xs.length=l.length*7/\∀i,i<l.length->∃xa xc,(xs.drop (i*7)).take 7= (l.getD i Q_.zero).cells xa xc/\Strs w xa (l.getD i Q_.zero).texts/\(xa=none->xc=0)/\(∀ad:Addr,xa=some ad->P ad.block)
theorem aZ.nil(w:KH)(P:Nat->Prop):aZ w P [] []:=⟨rfl,fun i a=>by simp at a⟩
variable {xs : List KI}
theorem aZ.kept(h:aZ w P xs l)(k:K_ w w'):aZ w' P xs l:=⟨h.1,fun i a=>by obtain⟨b,c,d,e,f⟩:=h.2 i a;exact⟨b,c,d,e.kept k,f⟩⟩
theorem aZ.snoc{r:Q_}{xa:KG}{xc:Nat}(h:aZ w P xs l)(e:Strs w xa r.texts)(f:xa=none->xc=0)(j:∀ad:Addr,xa=some ad->P ad.block):aZ w P (xs++r.cells xa xc) (l++ [r]):=by
 refine⟨by simp[h.1,Q_.cells];omega,fun i c=>?_⟩;rw[JH] at c;simp only[JK,List.length_nil] at c;by_cases d:i<l.length
 ·have a:(l++ [r]).getD i Q_.zero=l.getD i Q_.zero:=by simp[List.getD,JU d]
  have b:((xs++r.cells xa xc).drop (i*7)).take 7= (xs.drop (i*7)).take 7:=by
   rw[List.drop_append_of_le_length (by rw[h.1];omega),List.take_append_of_le_length (by rw[List.length_drop,h.1];omega)]
  rw[a,b];exact h.2 i d
 ·obtain rfl:i=l.length:=by omega
  have a:(l++ [r]).getD l.length Q_.zero=r:=by simp[List.getD]
  have b:((xs++r.cells xa xc).drop (l.length*7)).take 7=r.cells xa xc:=by
   rw[<-h.1,List.drop_left]
   rfl
  rw[a,b];exact⟨xa,xc,rfl,e,f,j⟩
variable {base n : Nat}
theorem aZ.runs{v:KI}(b:w'.ownsRow base 40 7 v n xs)(h:aZ w P xs l)(k:K_ w w'):n=l.length/\∃a c,v= .slice a l.length c/\lW w' P a l:=by
 have p:n=l.length:=by have B:=b.1;have C:=h.1;omega
 subst p;refine⟨rfl, ?_⟩;rcases b.2 with⟨rfl,q⟩|⟨g,c,D,rfl,E,r,F,_,_,_⟩
 ·exact⟨none,0,by rw[q],fun i d=>by omega⟩
 ·refine⟨_,c,rfl,fun i d=>?_⟩;obtain⟨s,t,e,x,y⟩:=h.2 i d;refine⟨g,0,s,t,rfl,aN r,(fun j u f=>?_),x.kept k,y⟩;have A:j<7:=by have:=(Je.1 f).1;simpa[Q_.cells] using this
  have m:((xs.drop (i*7)).take 7)[j]? =some u:=by rw[e];exact f
  rw[List.getElem?_take,Kg A,List.getElem?_drop] at m;have:=b.cells (g:=g) rfl _ _ m;rw[JL] at this;rw[JA] at this⊢;exact this
theorem Dg{c p:Nat}{t:TypeId}{v u:KI}{l:List KC}(h:w.ownsRow base t 1 v n (l.map Value.string))(r:c<base):∃a b,v= .slice a l.length b/\Strs (w.setCell ⟨c,p,none⟩ u) a l/\(a=none->b=0)/\(∀d:Addr,a=some d->base<=d.block):=by
 have j:n=l.length:=by have:=h.1;simp at this;omega
 subst j;rcases h.2 with⟨rfl,k⟩|⟨g,b,s,rfl,m,q,x,_,_,_⟩
 ·exact⟨none,0,by rw[k],(fun i f=>by omega),(fun _=>rfl),fun d e=>by cases e⟩
 ·refine⟨_,b,rfl,(fun i f=>⟨g,0,rfl,by rw[size_setCell];exact aN q, ?_⟩),(fun e=>by cases e),fun d e=>by cases e;exact m⟩;have:=h.cells (g:=g) rfl i (.string (l.getD i ByteArray.empty)) (by simp[List.getD,f]);rw[JL] at this;rw[Zj (by omega)];exact this
def GY(w2 wr:KH)(P:Nat->Prop)(out:KI)(p:List Q_×Bool):Prop:=∃xs,wr.ownsRow w2.heap.size 40 7 out p.1.length xs/\aZ w2 P xs p.1/\K_ w2 wr
def ER(w w':KH)(P:Nat->Prop)(v:KI)(l:List Q_):Prop:=∃w2 xs,K_ w w2/\K_ w2 w'/\w'.ownsRow w2.heap.size 40 7 v l.length xs/\aZ w2 P xs l
structure KnX (wz wr:KH) (kb:Nat) (a:KG) (n cap:Nat) (R:List Q_) (d:KG) (dc:Nat) (xs:List KI):Prop where
 kw:K_ wz wr
 known:iJ wr kb a n cap d R.length dc
 own:wr.ownsRow wz.heap.size 40 7 (.slice d R.length dc) R.length xs
 pack:aZ wz (fun _=>True) xs R
variable {R : List Q_} {cap dc kb : Nat} {d : KG} {wr wz : KH}
theorem KnX.kept(h:KnX wz wr kb a n cap R d dc xs)(k:K_ wr w'):KnX wz w' kb a n cap R d dc xs:=
 ⟨h.kw.trans k,h.known.kept k,aj h.own k,h.pack⟩
theorem KnX.runs(h:KnX wz wr kb a n cap R d dc xs):bK wr d R:=by
 obtain⟨_,e,f,b,c⟩:=aZ.runs h.own h.pack h.kw;simp only[JJ,true_and] at b;rw[b.1];exact c.runs
theorem own_ne{v:KI}(b:au w kb 140 2)(h:w.ownsRow base 40 7 v n xs):some kb≠v.ownBlock:=by
 rcases h.2 with⟨rfl,_⟩|⟨g,d,f,rfl,_,c,_⟩
 ·intro e;cases e
 ·intro e;simp only[Value.ownBlock,JI] at e;subst e;obtain⟨i,a,_⟩:=b;rw[c] at a;simp only[JI,Obj.cells.injEq] at a;exact Ki a.2.1 (by decide)
theorem KnX.block{W e:KH}(h:KnX wz wr kb a n cap R d dc xs)(c:K_ wr W)(f:W.grownBy e (Value.slice d R.length dc).ownBlock):e.heap[kb]? =W.heap[kb]? :=
 f.block kb (h.known.kept c).row.lt (own_ne (h.known.kept c).row (aj h.own c))
theorem KnX.grown{W c:KH}(h:KnX wz wr kb a n cap R d dc xs)(b:K_ wr W)(i:W.grownBy c (Value.slice d R.length dc).ownBlock):K_ wz c/\iJ c kb a n cap d R.length dc:=by
 have e:=h.block b i;have f:=h.known.kept b;exact⟨aF (h.kw.trans b) (IZ _) (aj h.own b) i,f.row.block e,(Jl (w:=W) e).trans f.web,(Jl (w:=W) e).trans f.runs⟩
theorem Dr{size:Nat}{e:TypeId}{v:KI}(h:w.ownsRow base e size v n xs){o:Nat}(a:some kb≠v.ownBlock)(u:KI):(w.setCell ⟨kb,o,none⟩ u).ownsRow base e size v n xs:=by
 refine⟨h.1, ?_⟩;rcases h.2 with b|⟨g,c,d,rfl,f,i,rest⟩
 ·exact .inl b
 ·refine .inr ⟨g,c,d,rfl,f, ?_,rest⟩;rw[Below.heap_setCell _ _ _ _ (fun e=>a (by simp[Value.ownBlock,e]))];exact i
theorem KnX.next{W c:KH}{e:Nat}{f:KG}{y:Q_}{xa:KG}{xc:Nat}(h:KnX wz wr kb a n cap R d dc xs)(k:wz.heap.size<=kb)(l:K_ wr W)(m:W.grownBy c (Value.slice d R.length dc).ownBlock)
 (i:c.ownsRow wz.heap.size 40 7 (.slice f (R.length+1) e) (R.length+1) (xs++y.cells xa xc)) (q:Strs wz xa y.texts) (r:xa=none->xc=0):
  KnX wz (c.setCell ⟨kb,1,none⟩ (.slice f (R.length+1) e)) kb a n cap (R++ [y]) f e (xs++y.cells xa xc):=by
 obtain⟨s,b⟩:=h.grown l m;have j:(R++ [y]).length=R.length+1:=by simp
 refine⟨Below.setCell s (p:=⟨kb,1,none⟩) k _,⟨b.row.set _, ?_, ?_⟩, ?_,h.pack.snoc q r (fun _ _=>trivial)⟩
 ·rw[Xk (by omega)];exact b.web
 ·rw[j];exact aS b.row.row (by omega) _
 ·rw[j];exact Dr i (own_ne b.row i) _
theorem tu(W:dQ):∀(bs:List KC) (l:List Q_) (n:KC),fB W l (bs++ [n])=if (W n).isSome=true/\(Qq (fB W l bs) n).isNone=true then fB W l bs++ [Q_.fresh n] else fB W l bs
 | [],_l,_n=>rfl
 | _b :: bs,_l,n=>tu W bs _ n
theorem Cb(W:dQ)(l:List Q_){a:List KC}{k:Nat}(h:k<a.length):fB W l (a.take (k+1))=if (W (a.getD k ByteArray.empty)).isSome=true/\(Qq (fB W l (a.take k)) (a.getD k ByteArray.empty)).isNone=true then fB W l (a.take k)++ [Q_.fresh (a.getD k ByteArray.empty)] else fB W l (a.take k):=by
 rw[Jf h,tu];simp[List.getD,h]
theorem nU(W:dQ):∀(bs:List KC) (l:List Q_),(fB W l bs).length<=l.length+bs.length
 | [],l=>by simp[fB]
 | b :: bs,l=>by
  have h:=nU W bs (if (W b).isSome=true/\(Qq l b).isNone=true then l++ [Q_.fresh b] else l);show (fB W (if (W b).isSome=true/\(Qq l b).isNone=true then l++ [Q_.fresh b] else l) bs).length<=_
  split at h <;> rename_i hc
  ·rw[Kg hc];simp at h⊢;omega
  ·rw[Kh hc];simp at h⊢;omega
theorem zB(w:KH)(a:KG)(c:Nat)(l:List Qz)(b:KC)(d:l.length<=1048576)(f:bY w a l)(h:(Kk l b).isSome=true):
  Calls prog 44 #[.agg #[.slice a l.length c],.string b] w fun e w'=>(∃r:Nat,e= .returned (.int .i64 (r:Int)))/\K_ w w':=by
 refine (dG w a c l b d f).mono ?_;rintro e w' ⟨⟨r,rfl,i⟩,k⟩;rcases i with⟨j,_,rfl,_⟩|⟨_,m⟩
 ·exact⟨⟨j,rfl⟩,k⟩
 ·rw[m] at h;cases h
theorem EB(w:KH)(a:KG)(c:Nat)(l:List Qz)(b:KC)(f:l.length<=1048576)(i:bY w a l)(h:¬(Kk l b).isSome=true):
  Calls prog 44 #[.agg #[.slice a l.length c],.string b] w fun e w'=>e= .returned (.int .i64 (-1))/\K_ w w':=by
 refine (dG w a c l b f i).mono ?_;rintro e w' ⟨⟨r,rfl,j⟩,k⟩;rcases j with⟨m,_,rfl,d,_⟩|⟨rfl,d⟩
 ·rw[d] at h;exact Ki rfl h
 ·exact⟨rfl,k⟩
theorem EX(w:KH)(b:Nat)(a:KG)(n f:Nat)(d:KG)(h:Nat)(l:List Q_)(c:KC)(j:l.length<=1048576)(k:iJ w b a n f d l.length h)(m:bK w d l)(i:(Qq l c).isNone=true):
  Calls prog 123 #[.pointer (some ⟨b,0,none⟩),.string c] w fun e w'=>(∃r:Int,e= .returned (.int .i64 r)/\r<0)/\w'=w:=by
 refine (Eu w b a n f d h l c j k m).mono ?_;rintro e w' ⟨⟨r,rfl,p⟩,q⟩;rcases p with⟨t,_,rfl,s,_⟩|⟨rfl,_⟩
 ·rw[s] at i;cases i
 ·exact⟨⟨-1,rfl,by omega⟩,q⟩
theorem EW(w:KH)(b:Nat)(a:KG)(n f:Nat)(d:KG)(h:Nat)(l:List Q_)(c:KC)(j:l.length<=1048576)(k:iJ w b a n f d l.length h)(m:bK w d l)(i:¬(Qq l c).isNone=true):
  Calls prog 123 #[.pointer (some ⟨b,0,none⟩),.string c] w fun e w'=>(∃r:Nat,e= .returned (.int .i64 (r:Int)))/\w'=w:=by
 refine (Eu w b a n f d h l c j k m).mono ?_;rintro e w' ⟨⟨r,rfl,p⟩,q⟩;rcases p with⟨s,_,rfl,_⟩|⟨_,t⟩
 ·exact⟨⟨s,rfl⟩,q⟩
 ·rw[t] at i;exact Ki rfl i
theorem Ai(w:KH)(cost j:Int)(a d:KG)(r N:Nat)(l:List Xq)(ans:List Xz)(D:l.length<=maxLen)(E:∀s∈l,s.Fits)(F:Steps w a l)
  (O:ans.length<=maxLen) (_has:∀c∈ans,c.text.size<=maxLen) (_hD:ed w d ans)
  (P:Hid (¬(mH cost l j/\ans.length= (iE l j).asks.length))):
  Calls prog 80 #[.agg #[.int .i64 cost,.slice a l.length r],.int .i64 j,.slice d ans.length N] w fun e w'=>(∃g,e= .returned (.agg g.cells.toArray)/\jb cost l j ans g)/\K_ w w':=by
 have Q:=D;have R:=O;unfold maxLen at Q R;have t:K_ w ((w.alloc (.cells #[.int .i64 cost,.slice a l.length r] 77)).alloc (.cells #[.int .i64 0,.bool false,.int .i64 0,.string ⟨#[]⟩] 135)):=(ag _ _).alloc _;go_enter func80,ntmps80
 go_wp2_with fail
 refine (fq _ cost a r l D E (F.kept t)).mono ?_;rintro e w1 ⟨B,k⟩;have p:=t.trans k;have G:Row w1 (w.heap.size+1) 4:=Row.kept (by have:=Row.made (w.alloc (.cells #[.int .i64 cost,.slice a l.length r] 77)) #[.int .i64 0,.bool false,.int .i64 0,.string ⟨#[]⟩] 135;simpa using this) k;have q:=Kz G;clear G;obtain⟨a1,a2⟩:=k.rules;have S:=k.size;simp only[JG] at S;have x0:w.heap.size<w1.heap.size:=by omega
 have x1:w.heap.size+1<w1.heap.size:=by omega
 rcases B.cases with⟨rfl,H⟩|⟨rfl,I⟩
 ·have v:=Kz H;clear H B t k;by_cases T:0<=j
  ·cases J:decide (j<=(l.length:Int)-1)
   ·have U:(l.length:Int)-1<j:=by simpa using J
    go_wp2
    have i:=Jc w1 (w.heap.size+1) 0 bN.none.cells (q.o.there (o:=0) (m:=4) (IZ _));exact Zx bN.none.cells _ results80 rfl i underlying135 rfl Tryz.dC rfl ⟨⟨_,rfl,Or.inl ⟨fun h=>(by have:=h.2.1;omega),rfl⟩⟩,K_.setCells (g:=w.heap.size+1) (by omega) bN.none.cells 0 p⟩
   ·have U:j<=(l.length:Int)-1:=by simpa using J
    obtain⟨n,rfl⟩:=Int.eq_ofNat_of_zero_le T;have C:n<l.length:=by omega
    obtain⟨b,o,cs,rfl,hb,f,aa,ca,ac,cc,rfl,V,W,X⟩:=F.kept p n C;have Y:=E (l.getD n Xq.zero) (by simp[List.getD,C]);obtain⟨s,x⟩:=ah (l.getD n Xq.zero);rw[<-x] at f Y V W X;have y:Hid (iE l n=s):=by rw[x];show Hid (l.getD (n:Int).toNat Xq.zero=_);rw[Int.toNat_natCast];exact rfl
    have a3:Hid (jS s l.length):=by rw[x];exact v.o.2.2 n C
    clear x;have Z:=f 0 _ rfl;have c1:=f 1 _ rfl;have c2:=f 2 _ rfl;have c3:=f 3 _ rfl;have c4:=f 4 _ rfl;have K:=f 5 _ rfl;have c6:=f 6 _ rfl;have c7:=f 7 _ rfl;simp only[JM] at Z;clear f;cases A:s.fin
    ·rw[A] at K;have L:Hid (mH cost l n):=⟨v.o,⟨by omega,by omega⟩,by rw[y.o];exact A⟩;have M:ans.length≠s.asks.length:=fun h=>P.out ⟨L.o,by rw[y.o];exact h⟩
     have a4:((ans.length:Int) != (s.asks.length:Int))=true:=by simp;omega
     have a0:=Kz M;clear M;go_wp2
     have i:=Jc w1 (w.heap.size+1) 0 bN.none.cells (q.o.there (o:=0) (m:=4) (IZ _));exact Zx bN.none.cells _ results80 rfl i underlying135 rfl Tryz.dC rfl ⟨⟨_,rfl,Or.inr ⟨L.o,Or.inl ⟨fun h=>a0.o (by have:=h.1;rw[y.o] at this;exact this),rfl⟩⟩⟩,K_.setCells (g:=w.heap.size+1) (by omega) bN.none.cells 0 p⟩
    ·rw[A] at K;go_wp2
     have i:=Jc w1 (w.heap.size+1) 0 bN.none.cells (q.o.there (o:=0) (m:=4) (IZ _));exact Zx bN.none.cells _ results80 rfl i underlying135 rfl Tryz.dC rfl ⟨⟨_,rfl,Or.inl ⟨fun h=>(by have:=h.2.2;rw[y.o,A] at this;cases this),rfl⟩⟩,K_.setCells (g:=w.heap.size+1) (by omega) bN.none.cells 0 p⟩
  ·skip
   go_wp2
   have i:=Jc w1 (w.heap.size+1) 0 bN.none.cells (q.o.there (o:=0) (m:=4) (IZ _));exact Zx bN.none.cells _ results80 rfl i underlying135 rfl Tryz.dC rfl ⟨⟨_,rfl,Or.inl ⟨fun h=>(by have:=h.2.1;omega),rfl⟩⟩,K_.setCells (g:=w.heap.size+1) (by omega) bN.none.cells 0 p⟩
 ·have v:=Kz I;clear I B t k;go_wp2
  have i:=Jc w1 (w.heap.size+1) 0 bN.none.cells (q.o.there (o:=0) (m:=4) (IZ _));exact Zx bN.none.cells _ results80 rfl i underlying135 rfl Tryz.dC rfl ⟨⟨_,rfl,Or.inl ⟨fun h=>v.o h.1,rfl⟩⟩,K_.setCells (g:=w.heap.size+1) (by omega) bN.none.cells 0 p⟩
theorem BV(x:Option Q_):kJ x<=23:=by
 cases x with
 | none=>exact IZ _
 | some r=>
  show (if r.over=true then 0 else 22-r.Zq.toNat)<=23
  split <;> omega
theorem rF(σ:Env):∀l:List KC,dO l σ<=23*l.length
 | []=>Ja _
 | n :: l=>by
  have h:=rF σ l;have c:=BV (σ n);have e:dO (n :: l) σ=kJ (σ n)+dO l σ:=by simp[dO]
  rw[e,JK];omega
theorem Ei(a:List Qz)(l:List Q_):oU a l<=23*a.length:=by
 have h:=rF (Qq l) (a.map (·.name));rw[J_] at h;exact h
variable {σ : Env}
section
variable {W : dQ}
def pend(W:dQ)(σ:Env)(r:Q_):List KC:=
 if r.over=true\/r.Zq=0 then [] else
 match W r.name with
 | none=>[]
 | some A=>(stepOf A r.at').asks.filter fun a=>(bA W σ a).isNone
theorem jo :∀{l:List KC},(∃i,Yz W σ l=some i)↔∀a∈l,(bA W σ a).isSome=true
 | []=>⟨fun _ _ h=>(by cases h),fun _=>⟨[],rfl⟩⟩
 | a :: l=>by
  constructor
  ·rintro⟨i,h⟩ b c;unfold Yz at h;cases e:bA W σ a with
   | none=>rw[e] at h;cases h
   | some x=>
    rw[e] at h;simp only at h;cases d:Yz W σ l with
    | none=>rw[d] at h;cases h
    | some f=>
     rcases JN.1 c with rfl|c
     ·rw[e];rfl
     ·exact jo.1 ⟨f,d⟩ b c
  ·intro h;obtain⟨f,d⟩:=jo.2 (fun b c=>h b (Jp _ c));obtain⟨x,j⟩:=Js.1 (h a (by simp));exact⟨x :: f,by unfold Yz;rw[j,d]⟩
theorem vY{r:Q_}(n:(W r.name).isSome=true):aV W σ r↔r.over=false/\pend W σ r=[]:=by
 obtain⟨A,e⟩:=Js.1 n;unfold aV pend;constructor
 ·rintro⟨b,a⟩;refine⟨b, ?_⟩;rcases a with a|⟨p,f,m,h⟩
  ·rw[Kg (.inr a)]
  ·by_cases c:r.Zq=0
   ·rw[Kg (.inr c)]
   ·rw[Kh (by rw[b];simp[c]),e];simp only;rw[e] at m;cases m;rw[List.filter_eq_nil_iff];intro d i;have:=jo.1 ⟨f,h⟩ d i;cases j:bA W σ d with
    | none=>rw[j] at this;cases this
    | some x=>simp
 ·rintro⟨b,a⟩;refine⟨b, ?_⟩;by_cases c:r.Zq=0
  ·exact .inl c
  ·right
   rw[Kh (by rw[b];simp[c]),e] at a;simp only at a;rw[List.filter_eq_nil_iff] at a;obtain⟨f,h⟩:=(jo (l:=(stepOf A r.at').asks) (W:=W) (σ:=σ)).2 (fun d i=>by
    have:=a d i;cases j:bA W σ d with
    | none=>rw[j] at this;simp at this
    | some x=>rfl)
   exact⟨A,f,e,h⟩
theorem ET{n:KC}{r:Q_}(b:σ n=some r)(_hc:r.over=false)(a:KC):bA W (doX W σ n) a=if a=n/\(W n).isSome=true then (if (Xx W σ r).1.over=true then some ⟨(Xx W σ r).1.fail,(Xx W σ r).1.text⟩ else none) else bA W σ a:=by
 unfold bA;cases c:W a with
 | none=>
  have:¬(a=n/\(W n).isSome=true):=by rintro⟨rfl,h⟩;rw[c] at h;cases h
  rw[Kh this]
 | some A=>
  simp only;by_cases e:a=n
  ·subst e;rw[Kg ⟨rfl,by rw[c];rfl⟩,jW b]
  ·rw[Kh (by rintro⟨h,_⟩;exact e h),gG b,Kh e];cases d:σ a with
   | some x=>rfl
   | none=>
    simp only
    split
    ·rename_i x hx
     split at hx
     ·cases hx;rfl
     ·cases hx
    ·rfl
theorem Cs{n:KC}{r x:Q_}(d:σ n=some r)(f:r.over=false)(h:(W n).isSome=true):pend W (doX W σ n) x=if (Xx W σ r).1.over=true then (pend W σ x).filter (fun a=>!decide (a=n)) else pend W σ x:=by
 unfold pend;by_cases b:x.over=true\/x.Zq=0
 ·rw[Kg b,Kg b]
  split <;> rfl
 ·rw[Kh b,Kh b];cases l:W x.name with
  | none=>simp only;split <;> rfl
  | some A=>
   simp only;have j:bA W σ n=none:=by
    unfold bA;obtain⟨B,k⟩:=Js.1 h;rw[k,d];simp[f]
   by_cases c:(Xx W σ r).1.over=true
   ·rw[Kg c,List.filter_filter]
    congr 1
    funext a
    rw[ET d f];by_cases e:a=n
    ·rw[Kg ⟨e,h⟩,Kg c];simp[e]
    ·rw[Kh (by rintro⟨i,_⟩;exact e i)];simp[e]
   ·rw[Kh c]
    congr 1
    funext a
    rw[ET d f];by_cases e:a=n
    ·rw[Kg ⟨e,h⟩,Kh c,e,j]
    ·rw[Kh (by rintro⟨i,_⟩;exact e i)]
theorem lT(σ:Env)(n:KC):pend W σ (Q_.fresh n)=[]:=by
 unfold pend;rw[Kg (.inr rfl)]
theorem AX{r:Q_}(f:bV W){A:dD}(b:W r.name=some A)(m:0<=r.at')(n:r.at' < A.steps.length):(pend W σ r).Nodup:=by
 unfold pend
 split
 ·exact List.nodup_nil
 ·rw[b];simp only;refine List.Pairwise.filter _ ?_;have a:=(f _ _ b).1.2.2 r.at'.toNat (by omega);have e:A.steps.getD r.at'.toNat Xq.zero=stepOf A r.at':=rfl;rw[e] at a;cases c:(stepOf A r.at').fin with
  | true=>
   have:=(a.1 c).1;rw[Jn.1 this];exact List.Pairwise.nil
  | false=>
   have h:=(a.2 c).1.2.2.2.1;rw[Jj];intro i j k d l e;have:=(h j d).2 i l;simp only[List.getD,Jd k,Jd d,Kl] at this;exact this e
end
variable {σ : Env} {L : List KC} {r : Q_}
section
variable {W : dQ}
def aJ(W:dQ)(σ:Env)(n:KC):Nat->Q_×List KC
 | 0=>(Q_.fresh n,[])
 | k+1=>((Xx W σ (aJ W σ n k).1).1,(aJ W σ n k).2++ (Xx W σ (aJ W σ n k).1).2)
def gZ(W:dQ)(σ:Env)(r:Q_)(L:List KC):Prop:=∃k,aJ W σ r.name k= (r,L)/\∀j,j<k->aV W σ (aJ W σ r.name j).1
theorem fF{n:KC}:∀k,(aJ W σ n k).1.name=n
 | 0=>rfl
 | k+1=>by unfold aJ;rw[bZ];exact fF k
theorem gZ.start(n:KC):gZ W σ (Q_.fresh n) []:=⟨0,rfl,fun _ h=>aP h⟩
theorem gZ.unit(h:gZ W σ r L)(b:aV W σ r):gZ W σ (Xx W σ r).1 (L++ (Xx W σ r).2):=by
 obtain⟨k,a,c⟩:=h;refine⟨k+1, ?_,fun j d=>?_⟩
 ·rw[bZ];unfold aJ;rw[a]
 ·rw[bZ];rcases Nat.lt_or_ge j k with g|g
  ·exact c j g
  ·have:j=k:=by omega
   subst this;rw[a];exact b
theorem nN{n m:KC}(b:dI W σ m):∀{k:Nat},(∀j,j<k->aV W σ (aJ W σ n j).1)->aJ W (doX W σ m) n k=aJ W σ n k
 | 0,_=>rfl
 | k+1,h=>by
  have c:=nN (k:=k) b (fun j d=>h j (by omega));have:=mY b (h k (by omega));unfold aJ;rw[c,this]
theorem gZ.mono{m:KC}(h:gZ W σ r L)(a:dI W σ m):gZ W (doX W σ m) r L:=by
 obtain⟨k,c,b⟩:=h;refine⟨k,by rw[nN a b];exact c,fun j d=>?_⟩;rw[nN a (fun i e=>b i (by omega))];exact (b j d).mono a
theorem dR{n:KC}(b:(W n).isSome=true):∀{k:Nat},(∀j,j<k->aV W σ (aJ W σ n j).1)->(aJ W σ n k).1.over=false->(aJ W σ n k).1.Zq=k
 | 0,_,_=>rfl
 | k+1,h,ho=>by
  have c:=h k (by omega);have d:=dR b (k:=k) (fun j e=>h j (by omega)) c.1;rcases fT c (by rw[fF];exact b) with g | ⟨_,_,g⟩
  ·show (Xx W σ (aJ W σ n k).1).1.Zq=_;rw[g,d];omega
  ·exact Ki (g.symm.trans ho) (by simp)
theorem gZ.last(h:gZ W σ r L)(d:r.over=true){k:Nat}(e:∀j,j<k->aV W σ (aJ W σ r.name j).1)(h2:¬aV W σ (aJ W σ r.name k).1):aJ W σ r.name k= (r,L):=by
 obtain⟨m,b,f⟩:=h;rcases Ke k m with g|g|g
 ·exact Ki (f k g) h2
 ·subst g;exact b
 ·have:=(e m g).1;rw[b] at this;exact Ki (d.symm.trans this) (by simp)
theorem gZ.here(c:(W r.name).isSome=true)(h:gZ W σ r L)(e:r.over=false):∃k:Nat,r.Zq=k/\aJ W σ r.name k= (r,L)/\∀j,j<k->aV W σ (aJ W σ r.name j).1:=by
 obtain⟨k,a,b⟩:=h;refine⟨k, ?_,a,b⟩;have:=dR c b (by rw[a];exact e);rw[a] at this;exact this
theorem gZ.zero(b:(W r.name).isSome=true)(h:gZ W σ r L)(d:r.Zq=0)(c:r.over=false):L=[]:=by
 obtain⟨k,e,a,_⟩:=h.here b c;have:k=0:=by omega
 subst this;simp[aJ] at a;exact a.2
end
section
variable {Kq : List Qz} {Gl σ0 σs σ : Env} {ns : List KC} {i : Nat} {b : Bool}
structure mQ (Kq:List Qz) (Gl σ0 σs:Env) (ns:List KC) (σ:Env) (i:Nat) (b:Bool):Prop where
 led:∃k,bI (Behind (W:=Kk Kq) dx Gl) (doX (Kk Kq)) σ0 σ k
 no:b=false->σ=σs/\∀j,j<i->¬Behind (W:=Kk Kq) dx Gl σs (ns.getD j ByteArray.empty)
 yes:b=true->dO (Kq.map (·.name)) σ<dO (Kq.map (·.name)) σs
theorem mQ.start(a:∃k,bI (Behind (W:=Kk Kq) dx Gl) (doX (Kk Kq)) σ0 σs k):mQ Kq Gl σ0 σs ns σs 0 false:=
 ⟨a,fun _=>⟨rfl,fun j b=>aP b⟩,fun h=>by cases h⟩
theorem mQ.skip(h:mQ Kq Gl σ0 σs ns σ i b)(c:¬Behind (W:=Kk Kq) dx Gl σ (ns.getD i ByteArray.empty)):mQ Kq Gl σ0 σs ns σ (i+1) b:=
 ⟨h.led,fun a=>⟨(h.no a).1,fun j e=>by
  by_cases d:j=i
  ·subst d;rw[<-(h.no a).1];exact c
  ·exact (h.no a).2 j (by omega)⟩,h.yes⟩
theorem mQ.did(c:WfX (Kk Kq) σ)(h:mQ Kq Gl σ0 σs ns σ i b){n:KC}(a:Behind (W:=Kk Kq) dx Gl σ n):mQ Kq Gl σ0 σs ns (doX (Kk Kq) σ n) (i+1) true:=by
 obtain⟨k,e⟩:=h.led;obtain⟨r,f,_⟩:=a.1;have d:=(lF c a.1 (Kq.map (·.name))).2 (nZ (c n r f).web);refine⟨⟨k+1,e.snoc a⟩,fun j=>(by cases j),fun _=>?_⟩;cases b with
 | true=>have:=h.yes rfl;omega
 | false=>rw[(h.no rfl).1] at d⊢;exact d
theorem mQ.FU(h:mQ Kq Gl σ0 σs ns σ ns.length false)(c:∀n r,σs n=some r->n∈ns):AtEnd (Behind (W:=Kk Kq) dx Gl) σ:=by
 obtain⟨d,e⟩:=h.no rfl;intro n a;rw[d] at a;obtain⟨r,f,_⟩:=a.1;obtain⟨j,b,i⟩:=Jk (c n r f);have:=e j b;simp only[List.getD,Jd b,Kl,i] at this;exact this a
end
