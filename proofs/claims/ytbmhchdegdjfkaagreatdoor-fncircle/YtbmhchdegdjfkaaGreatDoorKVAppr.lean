import Derived.Deep.AppendLies
import Derived.Test.YtbmhchdegdjfkaaGreatDoorKWGo5
import Derived.Laws.AppendOwnNone
import Derived.Test.YtbmhchdegdjfkaaGreatDoorKOConcat
set_option maxRecDepth 100000
set_option maxHeartbeats 25600000
namespace Go.Proofs.YtbmhchdegdjfkaaGreatDoor
open Go.RowKit Go.Proofs.Tryz
theorem aQ{P:Program}{e:TypeId}{z:LQ}{size b:Nat}(h:(P.info? e).map (fun i=>(i.zero,i.size,i.bytes))=some (some z,size,b)):∃i,P.info? e=some i/\i.zero=some z/\i.size=size/\i.bytes=b:=by
 obtain⟨i,d,a⟩:=Option.map_eq_some_iff.1 h;simp only[Prod.mk.injEq] at a;exact⟨i,d,a.1,a.2.1,a.2.2⟩
theorem nk{W:fQ}{σ:Env}{a:LK}{x:Xq}:∀{l:List LK} {xs:List Xq},Yq W σ l=some xs->bP W σ a=some x->Yq W σ (l++ [a])=some (xs++ [x])
 | [],xs,h,hx=>by
  simp only[Yq,KT] at h;subst h;simp[Yq,hx]
 | b :: l,xs,h,hx=>by
  unfold Yq at h;cases c:bP W σ b with
  | none=>simp[c] at h
  | some y=>
   cases d:Yq W σ l with
   | none=>simp[c,d] at h
   | some ys=>
    simp only[c,d,KT] at h;subst h;show Yq W σ (b :: (l++ [a]))=_;unfold Yq;rw[c,nk d hx]
    rfl
theorem nJ{W:fQ}{σ:Env}{a:LK}(d:bP W σ a=none):∀{l:List LK},a∈l->Yq W σ l=none
 | b :: l,h=>by
  unfold Yq;rcases Lb.1 h with rfl|h
  ·rw[d]
  ·cases e:bP W σ b with
   | none=>rfl
   | some y=>simp only[nJ d h]
def Gj(Kq:List Qq)(l:List Qz)(asks:List LK)(w':LP)(e:Ending):Prop:=
 ∃(d:LM) (n c:Nat) (ok:Bool),e= .returned (.tuple #[.slice d n c,.bool ok])/\(ok=true->∃xs,Yq (Q_ Kq) (Qj l) asks=some xs/\n=xs.length/\ed w' d xs)/\(ok=false->Yq (Q_ Kq) (Qj l) asks=none)
theorem sS(w:LP)(E:Nat)(a:LM)(P:Nat)(n:List Qq)(d:LM)(Q:Nat)(l:List Qz)(s:Xj)(p F:LM)(y G:Nat)(a6:n.length<=1048576)(a7:l.length<=1048576)(c5:s.asks.length<=1000)(a8:∀x∈s.asks,x.size<=1000)
  (R:jk w E a n.length P d l.length Q) (S:bN w a n) (T:bD w d l) (U:Strs w p s.asks):
  Calls prog 79 #[.pointer (some ⟨E,0,none⟩),.agg #[.slice p s.asks.length y,.int .i64 s.on,.slice F s.cases.length G,.int .i64 s.els,.int .i64 s.fall,.bool s.fin,.bool s.bad,.string s.give]] w fun e w'=>Gj n l s.asks w' e/\K_ w w':=by
 have m:K_ w (w.alloc (.cells #[.slice p s.asks.length y,.int .i64 s.on,.slice F s.cases.length G,.int .i64 s.els,.int .i64 s.fall,.bool s.fin,.bool s.bad,.string s.give] 83)):=ag _ _;obtain⟨b,q⟩:=aj (w.alloc (.cells #[.slice p s.asks.length y,.int .i64 s.on,.slice F s.cases.length G,.int .i64 s.els,.int .i64 s.fall,.bool s.fin,.bool s.bad,.string s.give] 83));have q0:b.cell? ⟨w.heap.size,0,none⟩=some (.slice p s.asks.length y):=by rw[q];exact Xz w _ _ 0 _ rfl
 have V:w.heap.size<b.heap.size:=by rw[q];simp
 rw[<-q] at m;have W:K_ b (b.alloc (.cells #[] 173)):=ag _ _;have X:Hid ((b.alloc (.cells #[] 173)).ownsRow b.heap.size 173 2 (.slice (some ⟨b.heap.size,0,none⟩) 0 0) 0 (di [])):=KG b #[] 0 (JP _) (JR _) rfl;have a9:=Kz (U.kept m);have b0:=Kz (S.kept m);have b1:=Kz (T.kept m);have b2:=Kz (R.kept m);have Y:=Kz m;clear U S T R m;go_enter func79,ntmps79
 go_upto_region 1 with fail
 rw[<-q];clear q;go_wp2
 go_loopg [6,7] s.asks.length (fun gg x6 x7 wr=>∃(i:Nat) (c:List Xq),x7= .int .i64 (i:Int)/\i+gg=s.asks.length/\c.length=i/\Hid (Yq (Q_ n) (Qj l) (s.asks.take i)=some c)/\K_ b wr/\Hid (wr.ownsRow b.heap.size 173 2 x6 c.length (di c)))
 case atStart=>exact⟨0,[],rfl,by omega,rfl,Kz rfl,W,X⟩
 case round=>
  clear X W;obtain⟨i,c,rfl,hi,H,Z,k,I⟩:=hrel;have a0:=Kz H;clear H;obtain⟨J,K,rfl⟩:=ax I.o;have c0:=(k.cell V).trans q0;have cz:w.heap.size<wr.heap.size:=JQ V k.size;by_cases c6:(i:Int)<(s.asks.length:Int)
  ·have r:i<s.asks.length:=by omega
   obtain⟨sb,so,rfl,b3,a1⟩:=(a9.o.kept k) i r;obtain⟨L,A⟩:=aj (s.asks.getD i ByteArray.empty);rw[<-A] at a1;have b4:L.size<=1000:=by rw[A];exact a8 _ (by simp[List.getD,r])
   have a2:=Kz A;clear A;go_wp2_with fail
   refine (BB wr E a P n d Q l L a6 a7 b4 (b2.o.kept k) (b0.o.kept k) (b1.o.kept k)).mono ?_;rintro e j ⟨⟨f,t,ok,rfl,a3⟩,v⟩;have M:=Kz a3;clear a3 a1 b3;have N:K_ j (j.alloc (.cells #[.bool f,.string t] 173)):=ag _ _;cases ok
   ·go_wp2
    go_ret2
    refine⟨⟨J,_,K,false,rfl,(fun h=>(by cases h)),fun _=>nJ (a:=L) (by simpa using M.o) (by rw[a2.o];simp[List.getD,r])⟩,Y.o.trans (k.trans (v.trans N))⟩
   ·have B:K_ j ((j.alloc (.cells #[.bool f,.string t] 173)).alloc (.cells #[.bool f,.string t] 173)):=N.alloc _;have r0:=Xz j #[.bool f,.string t] 173 0 _ rfl;have r1:=Xz j #[.bool f,.string t] 173 1 _ rfl;simp only[KH] at r0 r1;have a4:=Kz (ai I.o (v.trans B));have b5:b.heap.size<=((j.alloc (.cells #[.bool f,.string t] 173)).alloc (.cells #[.bool f,.string t] 173)).heap.size:=(k.trans (v.trans B)).size;have b6:Hid (∀C u,([.bool f,.string t]:List LQ)[C]? =some u->((j.alloc (.cells #[.bool f,.string t] 173)).alloc (.cells #[.bool f,.string t] 173)).cell? ((⟨j.heap.size+1,0,none⟩:Addr).add C)=some u):=fun C u D=>by have:=Xz (j.alloc (.cells #[.bool f,.string t] 173)) #[.bool f,.string t] 173 C u D;rw[KR] at this;rw[KZ];exact this
    have b7:Hid (∀u∈([.bool f,.string t]:List LQ),u.oneCell'=true):=fun u D=>by simp only[Lb,Lc,or_false] at D;rcases D with rfl | rfl <;> rfl
    have KK:=Kz (k.trans (v.trans B));have H:c.length<=1000:=by have:=a0.o;omega
    obtain⟨ic,b8,b9,c1,c3⟩:=aQ Tryz.BA;clear v N B;go_wp2_with (at_builtin;refine wpList_append_own _ rfl (.tmp 31) (.tmp 33) 131 rfl b.heap.size 173 ic _ 2 24 underlying131 b8 b9 c1 c3 rfl (by decide) (.slice J c.length K) c.length (di c) rfl a4.o ⟨j.heap.size+1,0,none⟩ 1 1 [.bool f,.string t] rfl rfl b6.o b7.o (by unfold maxLen;omega) (by omega) b5 ?_;intro v' w6 O a5 _;have KP:=aG KK.out (JP _) a4.o a5;have HP:=Kz O;obtain⟨c7,c8,rfl⟩:=ax O;clear O a5)
    go_roundg (gk-1)
    case measure=>omega
    case rel=>exact⟨i+1,c++ [⟨f,t⟩],by go_num,by omega,by rw[KS,a0.o];rfl,Kz (by rw[JX r];exact nk Z.o (by rw[a2.o] at M;simpa[List.getD,r] using M.o)),KP,Kz (by rw[nV,KS];exact HP.o)⟩
  ·have c4:i=s.asks.length:=by omega
   go_wp2
   go_ret2
   refine⟨⟨J,_,K,true,rfl,fun _=>⟨c, ?_,rfl, ?_⟩,(fun h=>(by cases h))⟩,Y.o.trans k⟩
   ·have:=Z.o;rw[c4,KI] at this;exact this
   ·obtain⟨d2,c2,e2,_,hT⟩:=jf I.o;simp only[KX,true_and] at e2;obtain⟨rfl,_⟩:=e2;exact hT.answers
def FZ(Kq:List Qq)(r:Qz):Prop:=∃A,Q_ Kq r.name=some A/\0<=r.at'/\r.at' < A.steps.length
def bT(W:fQ):Prop:=∀n A,W n=some A->fU A/\iM n
theorem sN :∀{xs:List Xq} {k j:Nat},ni xs k=some j->∃i,j=k+i/\i<xs.length/\gQ (xs.getD i Xq.zero)/\lJ xs gQ i
 | [],_,_,h=>by simp[ni] at h
 | x :: l,k,j,h=>by
  unfold ni at h;by_cases a:x.fail=true
  ·rw[Lt a] at h;cases h;exact⟨0,rfl,by simp,a,fun j b=>aT b⟩
  ·rw[Lu a] at h;obtain⟨i,f,c,d,e⟩:=sN h;refine⟨i+1,by omega,by simpa using c,d,fun j b=>?_⟩;cases j with
   | zero=>exact a
   | succ j=>exact e j (by omega)
theorem sF :∀{xs:List Xq} {k:Nat},ni xs k=none->lJ xs gQ xs.length
 | [],_,_=>fun j b=>aT b
 | x :: l,k,h=>by
  unfold ni at h;by_cases c:x.fail=true
  ·rw[Lt c] at h;cases h
  ·rw[Lu c] at h;have:=sF h;intro j b;cases j with
   | zero=>exact c
   | succ j=>exact this j (by simpa using b)
theorem rU(t:LK)(els:Int):∀(l:List bK),(∃i,i<l.length/\(l.getD i bK.zero).text=t/\(∀j,j<i->(l.getD j bK.zero).text≠t)/\nP t els l= (l.getD i bK.zero).goto)\/((∀j,j<l.length->(l.getD j bK.zero).text≠t)/\nP t els l=els)
 | []=>.inr ⟨fun j a=>aT a,rfl⟩
 | c :: l=>by
  by_cases b:c.text=t
  ·exact .inl ⟨0,by simp,b,fun j a=>aT a,by simp[nP,b,List.getD]⟩
  ·have f:nP t els (c :: l)=nP t els l:=by simp[nP,b]
   rw[f];rcases rU t els l with⟨i,d,e,h,k⟩|⟨d,e⟩
   ·refine .inl ⟨i+1,by simpa using d,e,fun j a=>?_,k⟩;cases j with
    | zero=>exact b
    | succ j=>exact h j (by omega)
   ·refine .inr ⟨fun j a=>?_,e⟩;cases j with
    | zero=>exact b
    | succ j=>exact d j (by simpa using a)
variable {xs : List Xq}
theorem kD{s:Xj}(h:vG s xs):Followed s xs (eY s xs):=by
 refine .inr ⟨h, ?_⟩;unfold eY;cases e:ni xs 0 with
 | some j=>
  obtain⟨i,p,f,k,l⟩:=sN e;have:j=i:=by omega
  subst this;refine .inl ⟨j,f,k,l, ?_⟩;by_cases a:s.fall= -1
  ·exact .inl ⟨a,by simp[a]⟩
  ·exact .inr ⟨a,by simp[a]⟩
 | none=>
  refine .inr ⟨sF e,_, ?_,rfl⟩;by_cases b:xs.length=0
  ·rw[Lt b];exact .inl ⟨b,rfl⟩
  ·rw[Lu b];refine .inr ⟨b, ?_⟩;rcases rU (lD xs s.on) s.els s.cases with⟨i,c,d,m,n⟩|⟨c,d⟩
   ·exact .inl ⟨i,c,d,m,n⟩
   ·exact .inr ⟨c,d⟩
theorem lF.JN{cost:Int}{l:List Xj}{a:Int}{ans:List Xq}{g:bW}(h:lF cost l a ans g):(g.code=0->g.over=false->0<=g.at'/\g.at' < l.length)/\(g.over=true->7<=g.text.size):=by
 rcases h with⟨_,rfl⟩|⟨⟨c,⟨w,x⟩,d⟩,h⟩
 ·exact⟨fun e=>by simp[bW.none] at e,fun e=>by simp[bW.none] at e⟩
 ·have f:a.toNat<l.length:=by omega
  have j:ku (jQ l a) l.length:=c.2.2 a.toNat f;obtain⟨⟨_,_,_,k,_,b,m,_⟩,n⟩:=j.2 d;rcases h with⟨_,rfl⟩|⟨p,⟨i,q,_,_,⟨_,rfl⟩|⟨y,rfl⟩⟩|⟨_,r,s,rfl⟩⟩
  ·exact⟨fun e=>by simp[bW.none] at e,fun e=>by simp[bW.none] at e⟩
  ·refine⟨fun _ e=>by simp at e,fun _=>?_⟩;have:=(k i (by rw[<-p.1];exact q)).1.1;show 7<=(jq (jQ l a) i).size;unfold jq;rw[ByteArray.size_append];show 7<=6+_;omega
  ·exact⟨fun _ _=>⟨by show 0<=(jQ l a).fall;omega,m.2⟩,fun e=>by simp at e⟩
  ·refine⟨fun _ _=>?_,fun e=>by simp at e⟩;show 0<=r/\r<l.length;rcases s with⟨_,rfl⟩ | ⟨_,⟨t,v,_,_,rfl⟩ | ⟨_,rfl⟩⟩
   ·exact b
   ·exact (n t v).2
   ·exact b
theorem CJ(s:Xj)(a:List Xq):(eY s a).code=0:=by
 unfold eY
 split
 ·split <;> rfl
 ·rfl
structure Qz.Good (Kq:List Qq) (r:Qz):Prop where
 act:FZ Kq r
 lo:0<=r.Zj
 hi:r.Zj<=20
 tl:(r.texts.length:Int)<=5*r.Zj
 ts:∀t∈r.texts,t.size<=200
 tx:r.text.size<=200
 stp:∀A,Q_ Kq r.name=some A->r.over=false->r.Zj≠0->(stepOf A r.at').fin=false
def f_(Kq:List Qq)(σ:Env):Prop:=∀n r,σ n=some r->r.name=n/\r.Good Kq
theorem ET{n:LK}(h:n.size<=20):(uY n).size<=200:=by
 unfold uY;rw[ByteArray.size_append];show 3+n.size<=200;omega
variable {Kq : List Qq}
theorem BU{σ:Env}{n:LK}{x:Xq}(b:f_ Kq σ)(c:n.size<=20)(h:bP (Q_ Kq) σ n=some x):x.text.size<=200:=by
 unfold bP at h
 split at h
 ·simp only[KT] at h;subst h;exact ET c
 ·split at h
  ·rename_i r hr
   split at h
   ·simp only[KT] at h;subst h;exact (b n r hr).2.tx
   ·cases h
  ·cases h
theorem nQ{W:fQ}{σ:Env}{p:Xq->Prop}:∀{l:List LK} {xs:List Xq},(∀n∈l,∀x,bP W σ n=some x->p x)->Yq W σ l=some xs->xs.length=l.length/\∀x∈xs,p x
 | [],xs,_,h=>by
  simp only[Yq,KT] at h;subst h;exact⟨rfl,fun x f=>by cases f⟩
 | a :: l,xs,hp,h=>by
  unfold Yq at h;cases b:bP W σ a with
  | none=>simp[b] at h
  | some x=>
   cases c:Yq W σ l with
   | none=>simp[b,c] at h
   | some ys=>
    simp only[b,c,KT] at h;subst h;obtain⟨i,j⟩:=nQ (p:=p) (fun n k=>hp n (Kl _ k)) c;refine⟨by simp[i],fun y d=>?_⟩;rcases Lb.1 d with rfl | d
    ·exact hp a (by simp) y b
    ·exact j y d
theorem pX{σ:Env}{s:Xj}(b:f_ Kq σ)(c:∀n∈s.asks,n.size<=20)(h:Yq (Q_ Kq) σ s.asks=some xs):vG s xs/\∀x∈xs,x.text.size<=200:=by
 obtain⟨d,a⟩:=nQ (p:=fun x=>x.text.size<=200) (fun n e x f=>BU b (c n e) f) h;refine⟨⟨d,fun ⟨i,j,k⟩=>?_⟩,a⟩;have:=a (xs.getD i Xq.zero) (by simp[List.getD,j]);unfold nN at k;omega
theorem iV{A:fP}(e:fU A){i:Int}(h:0<=i)(k:i<A.steps.length):(stepOf A i).asks.length<=5/\∀n∈(stepOf A i).asks,iM n:=by
 have b:ku (stepOf A i) A.steps.length:=e.2.2 i.toNat (by omega);cases c:(stepOf A i).fin with
 | true=>
  have:=(b.1 c).1;refine⟨by omega,fun n a=>?_⟩;rw[LB this] at a;cases a
 | false=>
  have:=(b.2 c).1;refine⟨this.2.2.1,fun n a=>?_⟩;obtain⟨j,d,f⟩:=Kb a;have:=(this.2.2.2.1 j d).1;simp only[List.getD,JV d,f,Lx] at this;exact this
theorem yo{s:Xj}{i:Nat}(h:∀n∈s.asks,n.size<=20):(jq s i).size<=200:=by
 unfold jq;rw[ByteArray.size_append];show 6+_<=200;by_cases a:i<s.asks.length
 ·have:=h (s.asks.getD i ByteArray.empty) (by simp[List.getD,a]);omega
 ·have e:s.asks.getD i ByteArray.empty=ByteArray.empty:=by simp[List.getD,a]
  rw[e]
  decide
theorem Ia(give:LK)(l:List LK):(mZ give l).size<=200:=by
 show (lT give.data.toList (texts l)).toArray.size<=200;unfold lT
 split
 ·simp
 ·split
  ·simpa using ‹_›
  ·simp[gY]
theorem uZ(a:List Xq):(aM a).length<=a.length:=by
 unfold aM;rw[Lm];exact List.length_filter_le _ _
theorem pY{t:LK}(h:t∈aM xs):∃x∈xs,x.text=t:=by
 unfold aM at h;rw[Ku] at h;obtain⟨x,b,e⟩:=h;exact⟨x,(List.mem_filter.1 b).1,e⟩
theorem tF{A:fP}{r:Qz}(a:Q_ Kq r.name=some A)(b:0<=r.at')(c:r.at' < A.steps.length)(l:0<=r.Zj)(m:r.Zj<20)(d:(r.texts.length:Int)<=5*(r.Zj+1))(e:∀t∈r.texts,t.size<=200)(f:r.text.size<=200):(gU A r).1.Good Kq:=by
 unfold gU;cases h:(stepOf A r.at').fin with
 | true=>
  simp only[if_true];exact⟨⟨A,a,b,c⟩,by show 0<=r.Zj+1;omega,by show r.Zj+1<=20;omega,d,e,Ia _ _,fun _ _ i=>by simp at i⟩
 | false=>
  simp only[Bool.false_eq_true,if_false];refine⟨⟨A,a,b,c⟩,by show 0<=r.Zj+1;omega,by show r.Zj+1<=20;omega,d,e,f,fun j k _ _=>?_⟩;have:A=j:=Lf (a.symm.trans k);subst this;exact h
theorem fG{σ:Env}{r:Qz}(y:bT (Q_ Kq))(B:f_ Kq σ)(h:r.Good Kq)(j:bZ (Q_ Kq) σ r):(Y_ (Q_ Kq) σ r).1.Good Kq:=by
 obtain⟨A,b,d,e⟩:=h.act;have k:=(y _ _ b).1;unfold Y_;rw[b];simp only;by_cases f:r.Zj=0
 ·rw[Lt f];have:=h.tl;exact tF b d e h.lo (by omega) (by omega) h.ts h.tx
 ·rw[Lu f];rcases j.2 with C|⟨S,a,l,m⟩
  ·exact Lv C f
  ·rw[b] at l;cases l;rw[m];simp only;have T:=h.lo;have U:=h.hi;have V:=h.tl;by_cases p:r.Zj=20
   ·rw[Lt p];exact⟨⟨A,b,d,e⟩,h.lo,h.hi,h.tl,h.ts,by show nK.size<=200;decide,fun _ _ h=>by simp at h⟩
   ·rw[Lu p];obtain⟨D,E⟩:=iV k d e;have q:∀n∈(stepOf A r.at').asks,n.size<=20:=fun n F=>(E n F).2.1
    obtain⟨s,G⟩:=pX B q m;have H:=kD s;have W:lF A.cost A.steps r.at' a (eY (stepOf A r.at') a):= .inr ⟨⟨k,⟨d,e⟩,h.stp A b j.1 f⟩,H⟩;by_cases c:(eY (stepOf A r.at') a).over=true
    ·rw[Lt c];refine⟨⟨A,b,d,e⟩,by show 0<=r.Zj+1;omega,by show r.Zj+1<=20;omega,by show (r.texts.length:Int)<=5*(r.Zj+1);omega,h.ts, ?_,fun _ _ h=>by simp at h⟩;show (eY (stepOf A r.at') a).text.size<=200;unfold eY
     split
     ·split
      ·exact yo q
      ·show (⟨#[]⟩:LK).size<=200;decide
     ·show (⟨#[]⟩:LK).size<=200;decide
    ·rw[Lu c];have t:0<=(eY (stepOf A r.at') a).at'/\(eY (stepOf A r.at') a).at' < A.steps.length:=by
      have I:(stepOf A r.at').fin=false:=h.stp A b j.1 f;have J:ku (stepOf A r.at') A.steps.length:=k.2.2 r.at'.toNat (by omega);obtain⟨⟨_,_,_,_,_,v,K,_⟩,L⟩:=J.2 I;unfold eY at c⊢
      split
      ·rename_i w hi'
       rw[hi'] at c;simp only at c;by_cases x:(stepOf A r.at').fall= -1
       ·rw[Lt x] at c;simp at c
       ·rw[Lu x];exact⟨by show 0<=(stepOf A r.at').fall;omega,K.2⟩
      ·show 0<=(if a.length=0 then _ else _)/\(if a.length=0 then _ else _)<_
       split
       ·exact v
       ·rcases rU (lD a (stepOf A r.at').on) (stepOf A r.at').els (stepOf A r.at').cases with⟨w,M,_,_,N⟩|⟨_,O⟩
        ·rw[N];exact (L w M).2
        ·rw[O];exact v
     have X:=uZ a;have Y:a.length<=5:=by rw[s.1];exact D
     refine tF (r:={r with texts:=r.texts++aM a,at':=(eY (stepOf A r.at') a).at'}) b t.1 t.2 h.lo (by show r.Zj<20;omega) ?_ (fun P i=>?_) h.tx
     ·show ((r.texts++aM a).length:Int)<=5*(r.Zj+1);rw[KS]
      push_cast
      omega
     ·rcases JZ.1 i with i|i
      ·exact h.ts P i
      ·obtain⟨Q,R,rfl⟩:=pY i;exact G Q R
def JA(w w':LP)(a:LM)(n cap:Nat)(d:LM)(m dc:Nat)(e:Ending):Prop:=∃kb,e= .returned (.pointer (some ⟨kb,0,none⟩))/\jk w' kb a n cap d m dc/\K_ w w'
theorem sH(w:LP)(a:LM)(n b:Nat)(f:LM)(h i:Nat)(d:LM)(m c:Nat):
  Calls prog 77 #[.agg #[.slice a n b],.agg #[.slice f h i,.slice d m c]] w fun e w'=>JA w w' a n b d m c e:=by
 go_enter func77,ntmps77
 go_wp2
 go_ret
 have j:=aC.made ((w.alloc (.cells #[.slice a n b] 25)).alloc (.cells #[.slice f h i,.slice d m c] 29)) #[.slice a n b,.slice d m c] 140;have k:=Xz ((w.alloc (.cells #[.slice a n b] 25)).alloc (.cells #[.slice f h i,.slice d m c] 29)) #[.slice a n b,.slice d m c] 140 0 _ rfl;have l:=Xz ((w.alloc (.cells #[.slice a n b] 25)).alloc (.cells #[.slice f h i,.slice d m c] 29)) #[.slice a n b,.slice d m c] 140 1 _ rfl;simp only[KR,KH] at j k l;exact⟨_,rfl,⟨j,k,l⟩,((ag w _).alloc _).alloc _⟩
def jC(Kq:List Qq):Prop:=∀y∈Kq,∀s∈y.steps,s.asks.length<=1000/\∀x∈s.asks,x.size<=1000
theorem yh(w:LP)(a:LM)(h:Nat)(c:List Qq)(m:LM)(n p:Nat)(d:LM)(j:Nat)(l:List Qz)(r:Qz)(xa:LM)(xc:Nat)(Z:c.length<=1048576)(a9:l.length<=1048576)(a0:jC c)
  (b1:r.over=false->r.Zj≠0->FZ c r) (hN:bN w a c) (hS:bD w d l):
  Calls prog 87 #[.agg #[.slice a c.length h],.agg #[.slice m n p,.slice d l.length j],.agg #[.string r.name,.bool r.over,.bool r.fail,.string r.text,.int .i64 r.at',.int .i64 r.Zj,.slice xa r.texts.length xc]] w fun e w'=>Says e (bZ (Q_ c) (Qj l) r)/\K_ w w':=by
 obtain⟨f,v⟩:=aj (((w.alloc (.cells #[.slice a c.length h] 25)).alloc (.cells #[.slice m n p,.slice d l.length j] 29)).alloc (.cells #[.string r.name,.bool r.over,.bool r.fail,.string r.text,.int .i64 r.at',.int .i64 r.Zj,.slice xa r.texts.length xc] 40));have kB:K_ w f:=by rw[v];exact ((ag _ _).alloc _).alloc _
 have a1:f.heap.size=w.heap.size+3:=by rw[v];simp
 have b0:f.cell? ⟨w.heap.size,0,none⟩=some (.slice a c.length h):=by rw[v,K_.cell (w:=w.alloc (.cells #[.slice a c.length h] 25)) ((ag _ _).alloc _) (by simp)];exact Xz w _ _ 0 _ rfl
 have s0:f.cell? ⟨w.heap.size+1,0,none⟩=some (.slice m n p):=by have:=Xz (w.alloc (.cells #[.slice a c.length h] 25)) #[.slice m n p,.slice d l.length j] 29 0 _ rfl;rw[KR] at this;rw[v,K_.cell (w:=(w.alloc (.cells #[.slice a c.length h] 25)).alloc (.cells #[.slice m n p,.slice d l.length j] 29)) (ag _ _) (by simp)];exact this
 have s1:f.cell? ⟨w.heap.size+1,1,none⟩=some (.slice d l.length j):=by have:=Xz (w.alloc (.cells #[.slice a c.length h] 25)) #[.slice m n p,.slice d l.length j] 29 1 _ rfl;rw[KR] at this;rw[v,K_.cell (w:=(w.alloc (.cells #[.slice a c.length h] 25)).alloc (.cells #[.slice m n p,.slice d l.length j] 29)) (ag _ _) (by simp)];exact this
 have F:∀J L,(#[.string r.name,.bool r.over,.bool r.fail,.string r.text,.int .i64 r.at',.int .i64 r.Zj,.slice xa r.texts.length xc]:Array LQ).toList[J]? =some L->f.cell? ⟨w.heap.size+2,J,none⟩=some L:=fun J L x=>by have:=Xz ((w.alloc (.cells #[.slice a c.length h] 25)).alloc (.cells #[.slice m n p,.slice d l.length j] 29)) #[.string r.name,.bool r.over,.bool r.fail,.string r.text,.int .i64 r.at',.int .i64 r.Zj,.slice xa r.texts.length xc] 40 J L x;rw[KR,KR,KH] at this;rw[v];exact this
 have r0:=F 0 _ rfl;have O:=F 1 _ rfl;have r4:=F 4 _ rfl;have r5:=F 5 _ rfl;have z0:w.heap.size<f.heap.size:=by omega
 have z1:w.heap.size+1<f.heap.size:=by omega
 have z2:w.heap.size+2<f.heap.size:=by omega
 have⟨C,c4⟩:=aH kB a1;clear F kB a1;go_enter func87,ntmps87
 go_upto_region 1 with fail
 rw[<-v];clear v;cases D:r.over
 ·rw[D] at O;by_cases x:r.Zj=0
  ·have b2:(r.Zj == 0)=true:=by simp[x]
   go_wp2
   go_ret
   exact⟨.yes ⟨D,.inl x⟩,C.o⟩
  ·have b2:(r.Zj == 0)=false:=by simpa using x
   obtain⟨c5,M,b3,a2⟩:=b1 D x;have i:Hid (∀w',K_ f w'->w'.cell? ⟨w.heap.size,0,none⟩=some (.slice a c.length h)/\w'.cell? ⟨w.heap.size+1,0,none⟩=some (.slice m n p)/\w'.cell? ⟨w.heap.size+1,1,none⟩=some (.slice d l.length j)/\w'.cell? ⟨w.heap.size+2,0,none⟩=some (.string r.name)/\w'.cell? ⟨w.heap.size+2,4,none⟩=some (.int .i64 r.at')):=fun w' K=>⟨(K.cell z0).trans b0,(K.cell z1).trans s0,(K.cell z1).trans s1,(K.cell z2).trans r0,(K.cell z2).trans r4⟩
   go_upto_region 5 with fail
   refine iF 22 i.o (aL f) (fun k=>?_);have KD:K_ f f.drew:=aL f;generalize b4:f.drew=wd at k KD⊢;clear b4 b0 s0 s1 r0 r4 O r5;refine af 0 k ?_;refine af 1 k ?_;refine au 3 k ?_;refine af 7 k ?_;refine af 13 k ?_;refine af 14 k ?_;refine ak 2 (fun K b=>?_);go_simp
   go_at_call 77
   refine (sH wd a c.length h m n p d l.length j).mono ?_;rintro e w1 ⟨kb,rfl,a3,k1⟩;have P:=KD.trans k1;have b5:=Kz a3;clear a3 k1;dsimp only;refine ae b (fun _=>i.o _ P) ?_;clear b K;clear k;refine ak 8 (fun K b=>?_);go_simp
   go_at_call 44
   refine (gK w1 a h c r.name Z ((hN.kept C.o).kept P)).mono ?_;rintro e w2 ⟨⟨c6,rfl,hq⟩,Q⟩;have q:=P.trans Q;have b6:=Kz (b5.o.kept Q);clear Q;rcases hq with⟨R,hk,rfl,A,_⟩|⟨rfl,A⟩
   ·rw[M] at A;simp only[Option.some.injEq] at A;have S:=(hN.kept C.o).kept q;obtain⟨nb,nq,cs,rfl,c7,T,na,nc,rfl,U⟩:=S R hk;obtain⟨y,V⟩:=aj (c.getD R Qq.zero);rw[<-V] at T U A;have n2:=T 2 _ rfl;subst A;obtain⟨E,G⟩:∃E:Nat,r.at'= (E:Int):=⟨r.at'.toNat,by omega⟩;have a4:E<y.steps.length:=by have s:=a2;rw[G] at s;dsimp only at s;omega
    obtain⟨tb,tq,c8,rfl,c9,t,aa,ca,ac,cc,rfl,W,a5,_⟩:=U E a4;obtain⟨H,N⟩:=aj (y.steps.getD E Xj.zero);rw[<-N] at t W a5;have t0:=t 0 _ rfl;have t1:=t 1 _ rfl;have t2:=t 2 _ rfl;have t3:=t 3 _ rfl;have t4:=t 4 _ rfl;have t5:=t 5 _ rfl;have t6:=t 6 _ rfl;have t7:=t 7 _ rfl;rw[La] at t0;have d0:(R:Int)<(c.length:Int):=by omega
    have d1:(E:Int)<(y.steps.length:Int):=by omega
    have X:H∈y.steps:=by rw[N];simp[List.getD,a4]
    have Y:y∈c:=by rw[V];simp[List.getD,hk]
    have b7:=(a0 y Y H X).1;have b8:=(a0 y Y H X).2;have b9:=Kz W;have c0:=Kz (hS.kept (C.o.trans q));have c1:=Kz S;have a6:Hid (stepOf ⟨y.cost,y.steps⟩ r.at'=H):=by show _=_;unfold stepOf;rw[G,N];rfl
    have HA:=Kz M;clear T t W a5 U V N M S b3 a2 X Y;rw[G];have d2:=Kz G;clear G;dsimp only;refine ae b (fun _=>i.o _ q) ?_;clear b K;refine ah 9 (fun K b=>?_);go_simp
    refine ae b (fun _=>i.o _ q) ?_;clear b K;refine ah 10 (fun K b=>?_);go_simp
    refine ae b (fun _=>i.o _ q) ?_;clear b K;refine ah 11 (fun K b=>?_);go_simp
    refine ae b (fun _=>i.o _ q) ?_;clear b K;refine ah 12 (fun K b=>?_);go_simp
    refine ae b (fun _=>i.o _ q) ?_;clear b K;refine ah 15 (fun K b=>?_);go_simp
    refine ae b (fun _=>i.o _ q) ?_;clear b K;refine ah 16 (fun K b=>?_);go_simp
    refine ae b (fun _=>i.o _ q) ?_;clear b K;refine ak 17 (fun K b=>?_);go_simp
    go_at_call 79
    refine (sS w2 kb (some ⟨nb,nq,none⟩) h c d j l H aa ac ca cc Z a9 b7 b8 b6.o c1.o c0.o b9.o).mono ?_;rintro e w3 ⟨⟨d3,n3,c3,ok,rfl,a7,a8⟩,k3⟩;have I:=q.trans k3;have⟨HY,c2⟩:=aH a7 a8;clear a7 a8 k3 t0 t1 t2 t3 t4 t5 t6 t7 n2;dsimp only;refine ae b (fun _=>i.o _ I) ?_;clear b K;refine ah 18 (fun K b=>?_);go_simp
    refine ae b (fun _=>i.o _ I) ?_;clear b K;have k:=i.o _ I;refine af 19 k ?_;refine af 20 k ?_;refine ah 21 (fun K b=>?_);go_simp
    refine ae b (fun _=>i.o _ I) ?_;clear b K;refine ah 22 (fun K b=>?_);go_simp
    refine ae b (fun B=>Lv rfl B) ?_;clear b K;refine aB ?_;go_wp2
    go_ret
    refine⟨?_,C.o.trans I⟩;cases ok
    ·refine .no fun B=>?_
     rcases B.2 with B|⟨A',xs,s,h2⟩
     ·exact x B
     ·rw[HA.o] at s;cases s;rw[a6.o,c2.o rfl] at h2;cases h2
    ·obtain⟨xs,s,_⟩:=HY.o rfl;exact .yes ⟨D,.inr ⟨_,xs,HA.o,by rw[a6.o];exact s⟩⟩
   ·rw[M] at A;cases A
 ·rw[D] at O;go_wp2
  go_ret
  exact⟨.no (fun B=>(by have s:=B.1;rw[D] at s;cases s)),C.o⟩
def fw(W:fQ):List Qz->List LK->List Qz
 | l,[]=>l
 | l,a :: bs=>fw W (if (W a).isSome=true/\(Qj l a).isNone=true then l++ [Qz.fresh a] else l) bs
theorem Fu(l:List Qz)(x:Qz)(m:LK):Qj (l++ [x]) m=match Qj l m with | some r=>some r | none=>if x.name=m then some x else none:=by
 unfold Qj;rw[List.find?_append];cases h:l.find? fun r=>decide (r.name=m) with
 | some r=>rfl
 | none=>
  by_cases e:x.name=m
  ·simp[e]
  ·simp[e]
theorem rR(W:fQ):∀(bs:List LK) (l:List Qz) (m:LK),Qj (fw W l bs) m=match Qj l m with | some r=>some r | none=>if dW bs m=true/\(W m).isSome=true then some (Qz.fresh m) else none
 | [],l,m=>by
  show Qj l m=_;cases Qj l m with
  | some r=>rfl
  | none=>simp[dW]
 | a :: bs,l,m=>by
  show Qj (fw W (if (W a).isSome=true/\(Qj l a).isNone=true then l++ [Qz.fresh a] else l) bs) m=_;rw[rR W bs];have d:dW (a :: bs) m=true↔a=m\/dW bs m=true:=by simp[dW]
  by_cases e:(W a).isSome=true/\(Qj l a).isNone=true
  ·rw[Lt e,Fu];cases k:Qj l m with
   | some r=>rfl
   | none=>
    simp only;by_cases h:a=m
    ·subst h;have i:(Qz.fresh a).name=a:=rfl;rw[Lt i];simp only;rw[Lt ⟨d.2 (.inl rfl),e.1⟩]
    ·have i:(Qz.fresh a).name≠m:=h;rw[Lu i];simp only;by_cases b:dW bs m=true/\(W m).isSome=true
     ·rw[Lt b,Lt ⟨d.2 (.inr b.1),b.2⟩]
     ·rw[Lu b,Lu];rintro⟨j,f⟩;rcases d.1 j with c|c
      ·exact h c
      ·exact b ⟨c,f⟩
  ·rw[Lu e];cases k:Qj l m with
   | some r=>rfl
   | none=>
    simp only;by_cases b:dW bs m=true/\(W m).isSome=true
    ·rw[Lt b,Lt ⟨d.2 (.inr b.1),b.2⟩]
    ·rw[Lu b,Lu];rintro⟨j,f⟩;rcases d.1 j with c|c
     ·subst c;exact e ⟨f,by rw[k];rfl⟩
     ·exact b ⟨c,f⟩
theorem j_(W:fQ):∀(bs:List LK) (l:List Qz),(∀x∈l,∀y∈l,x.name=y.name->x=y)->∀x∈fw W l bs,∀y∈fw W l bs,x.name=y.name->x=y
 | [],_,h=>h
 | a :: bs,l,h=>by
  show∀x∈fw W (if (W a).isSome=true/\(Qj l a).isNone=true then l++ [Qz.fresh a] else l) bs,∀y∈fw W (if (W a).isSome=true/\(Qj l a).isNone=true then l++ [Qz.fresh a] else l) bs,_;refine j_ W bs _ ?_;by_cases d:(W a).isSome=true/\(Qj l a).isNone=true
  ·rw[Lt d];have f:∀x∈l,x.name≠a:=fun x b e=>by
    have:=(tY h).2 ⟨b,e⟩;rw[this] at d;simp at d
   intro x b y c e;rcases JZ.1 b with b | b <;> rcases JZ.1 c with c | c
   ·exact h x b y c e
   ·rw[JY] at c;subst c;exact Lv e (f x b)
   ·rw[JY] at b;subst b;exact Lv e.symm (f y c)
   ·rw[JY] at b c;rw[b,c]
  ·rw[Lu d];exact h
def doL(W:fQ)(l:List Qz)(r:Qz):List Qz:=(fw W (dF l (Y_ W (Qj l) r).1) (Y_ W (Qj l) r).2).foldl dF []
variable {W : fQ} {l : List Qz} {r : Qz}
theorem Dt(h:cO l):cO (doL W l r):=(lM _ [] List.Pairwise.nil (j_ W _ _ (qi (nR h)))).1
theorem y_{n:LK}(h:cO l)(a:Qj l n=some r):Qj (doL W l r)=doX W (Qj l) n:=by
 funext m
 have c:r.name=n:=(bF a).2;have d:(Y_ W (Qj l) r).1.name=n:=by rw[eG];exact c
 unfold doL;rw[(lM _ [] List.Pairwise.nil (j_ W _ _ (qi (nR h)))).2 m,rR,uJ h,ik a,d];by_cases e:m=n
 ·rw[Lt e,Lt e]
 ·rw[Lu e,Lu e];cases f:Qj l m with
  | some x=>rfl
  | none=>
   simp only;by_cases b:dW (Y_ W (Qj l) r).2 m=true/\(W m).isSome=true
   ·rw[Lt b]
   ·rw[Lu b]
    rfl
structure dB (Kq:List Qq) (l:List Qz):Prop where
 asc:cO l
 good:∀r∈l,r.Good Kq
variable {Kq : List Qq}
theorem dB.env(h:dB Kq l):f_ Kq (Qj l):=fun _n r a=>⟨(bF a).2,h.good r (bF a).1⟩
theorem jL(c:bT (Q_ Kq)){a:LK}(h:(Q_ Kq a).isSome=true):(Qz.fresh a).Good Kq:=by
 obtain⟨A,b⟩:=Ko.1 h;have e:=(c a A b).1.2.1.1;exact⟨⟨A,b,Int.le_refl _,by show (0:Int)<A.steps.length;omega⟩,Int.le_refl _,by show (0:Int)<=20;omega,by show ((([]:List LK).length:Nat):Int)<=5*0;simp,fun t d=>(by cases d),by show (⟨#[]⟩:LK).size<=200;decide,fun _ _ _ h=>Lv rfl h⟩
theorem qI(c:bT (Q_ Kq))(h:dB Kq l)(d:r∈l)(i:bZ (Q_ Kq) (Qj l) r):dB Kq (doL (Q_ Kq) l r):=by
 refine⟨Dt h.asc,fun x j=>?_⟩;have e:=bI h.asc d;have a:=bI (Dt (W:=Q_ Kq) (r:=r) h.asc) j;rw[y_ h.asc e,ik e] at a;by_cases f:x.name=r.name
 ·rw[Lt f] at a;cases a;exact fG c h.env (h.good r d) i
 ·rw[Lu f] at a;cases b:Qj l x.name with
  | some y=>
   rw[b] at a;cases a;exact h.good x (bF b).1
  | none=>
   rw[b] at a;simp only at a
   split at a
   ·rename_i hc2
    have k:Qz.fresh x.name=x:=Lf a;rw[<-k];exact jL c hc2.2
   ·cases a
inductive eB (W:fQ) (σ:Env):List Qz->List LK->Prop
 | nil:eB W σ [] []
 | yes {l:List Qz} {ns:List LK} {r:Qz} (h:eB W σ l ns) (hr:bZ W σ r):eB W σ (l++ [r]) (ns++ [r.name])
 | no {l:List Qz} {ns:List LK} {r:Qz} (h:eB W σ l ns) (hr:¬bZ W σ r):eB W σ (l++ [r]) ns
variable {ns : List LK}
theorem eB.mem{σ:Env}(h:eB W σ l ns)(n:LK):n∈ns↔∃r∈l,r.name=n/\bZ W σ r:=by
 induction h with
 | nil=>simp
 | yes h hr ih=>
  rename_i l ns r
  rw[JZ,ih,JY];constructor
  ·rintro (⟨x,a,b⟩|rfl)
   ·exact⟨x,JZ.2 (.inl a),b⟩
   ·exact⟨r,JZ.2 (.inr (by simp)),rfl,hr⟩
  ·rintro⟨x,a,b,d⟩;rcases JZ.1 a with a|a
   ·exact .inl ⟨x,a,b,d⟩
   ·rw[JY] at a;subst a;exact .inr b.symm
 | no h hr ih=>
  rename_i l ns r
  rw[ih];constructor
  ·rintro⟨x,a,b⟩;exact⟨x,JZ.2 (.inl a),b⟩
  ·rintro⟨x,a,b,d⟩;rcases JZ.1 a with a|a
   ·exact⟨x,a,b,d⟩
   ·rw[JY] at a;subst a;exact Lv d hr
theorem eB.nodup{σ:Env}(h:eB W σ l ns)(b:cO l):ns.Nodup:=by
 induction h with
 | nil=>exact List.nodup_nil
 | yes h hr ih=>
  rename_i l ns r
  have c:=KC.1 b;rw[List.nodup_append];refine⟨ih c.1,by simp, ?_⟩;intro a f j d;rw[JY] at d;subst d;obtain⟨x,i,rfl,_⟩:=(h.mem a).1 f;exact dA (c.2.2 x i r (by simp))
 | no h hr ih=>exact ih (KC.1 b).1
theorem eB.ready(h:eB W (Qj l) l ns)(c:cO l)(n:LK):n∈ns↔eD W (Qj l) n:=by
 rw[h.mem];constructor
 ·rintro⟨r,a,rfl,b⟩;exact⟨r,bI c a,b⟩
 ·rintro⟨r,a,d⟩;obtain⟨b,e⟩:=bF a;exact⟨r,b,e,d⟩
theorem eB.len{σ:Env}(h:eB W σ l ns):ns.length<=l.length:=by
 induction h with
 | nil=>exact JP _
 | yes _ _ ih=>simp only[KS,LD];omega
 | no _ _ ih=>simp only[KS,LD];omega
def bV(Kq:List Qq)(Kk:List LK):List Qz:=(fw (Q_ Kq) [] Kk).foldl dF []
theorem uB(a:List Qq)(Kk:List LK):cO (bV a Kk):=(lM _ [] List.Pairwise.nil (j_ (Q_ a) Kk [] (fun _ h=>by cases h))).1
theorem pO(b:List Qq)(Kk:List LK)(n:LK):Qj (bV b Kk) n=if dW Kk n=true/\(Q_ b n).isSome=true then some (Qz.fresh n) else none:=by
 unfold bV;rw[(lM _ [] List.Pairwise.nil (j_ (Q_ b) Kk [] (fun _ h=>by cases h))).2 n,rR];show (match (if dW Kk n=true/\(Q_ b n).isSome=true then some (Qz.fresh n) else none) with | some r=>some r | none=>Qj [] n)=_
 split
 ·rename_i r h;rw[h]
 ·rename_i h;rw[h];rfl
theorem gX(c:bT (Q_ Kq))(Kk:List LK):dB Kq (bV Kq Kk):=by
 refine⟨uB Kq Kk,fun r d=>?_⟩;have a:=bI (uB Kq Kk) d;rw[pO] at a
 split at a
 ·rename_i h2
  have e:Qz.fresh r.name=r:=Lf a;rw[<-e];exact jL c h2.2
 ·cases a
theorem dB.wf(h:dB Kq l):WfX (Q_ Kq) (Qj l):=fun n r c=>by
 obtain⟨d,b⟩:=bF c;have a:=h.good r d;obtain⟨A,e,_⟩:=a.act;exact⟨b,by rw[<-b,e];rfl,a.lo,a.hi⟩
theorem qK{n:LK}(h:(Q_ Kq n).isSome=true):n∈Kq.map (·.name):=by
 obtain⟨A,c⟩:=Ko.1 h;obtain⟨k,a,e,_⟩:=gP c;rw[Ku];refine⟨Kq.getD k Qq.zero, ?_,e⟩;simp only[List.getD,JV a,Lx];exact J_ a
def lu(Kq:List Qq)(l:List Qz):Nat:=ek (Kq.map (·.name)) (Qj l)
theorem Di{n:LK}(h:dB Kq l)(b:Qj l n=some r)(c:bZ (Q_ Kq) (Qj l) r):lu Kq (doL (Q_ Kq) l r)<lu Kq l:=by
 unfold lu;rw[y_ h.asc b];exact (oK h.wf ⟨r,b,c⟩ _).2 (qK (h.wf n r b).web)
theorem xX(h:cO l):(l.map (·.name)).Nodup:=by
 rw[List.Nodup,List.pairwise_map];exact h.imp fun b=>dA b
theorem dB.len(h:dB Kq l):l.length<=Kq.length:=by
 have c:=List.Nodup.length_le_of_subset (xX h.asc) (l₂:=Kq.map (·.name)) (fun n d=>by
  obtain⟨r,e,rfl⟩:=Ku.1 d;exact qK (h.wf r.name r (bI h.asc e)).web)
 simpa using c
theorem C_{σ:Env}(d:ns.Nodup){i:Nat}(a:i<ns.length)(h:∀j,i<=j->j<ns.length->eD W σ (ns.getD j ByteArray.empty)):∀j,i+1<=j->j<ns.length->eD W (doX W σ (ns.getD i ByteArray.empty)) (ns.getD j ByteArray.empty):=by
 intro j e b;refine (qM σ _ _ ?_ (h i (JP _) a) (h j (by omega) b)).1;simp only[List.getD,JV a,JV b,Lx];exact Ka.1 d i j a b (by omega)
def IC(Kq:List Qq)(Kk:List LK)(sl:List Qz):Prop:=
 ∃k L,dB Kq L/\bO (Behind (W:=Q_ Kq) bA (Qj sl)) (doX (Q_ Kq)) (Qj (bV Kq Kk)) (Qj L) k/\AtEnd (Behind (W:=Q_ Kq) bA (Qj sl)) (Qj L)/\L=sl
theorem EM{Kk:List LK}{a L:List Qz}{k:Nat}(b:dB Kq L)(c:bO (Behind (W:=Q_ Kq) bA (Qj a)) (doX (Q_ Kq)) (Qj (bV Kq Kk)) (Qj L) k)(d:AtEnd (Behind (W:=Q_ Kq) bA (Qj a)) (Qj L)):L=a↔IC Kq Kk a:=by
 constructor
 ·intro h;exact⟨k,L,b,c,d,h⟩
 ·rintro⟨j,l,e,f,i,rfl⟩;exact Gw b.asc e.asc (bO.unique (gH _ _) c d f i)
structure fV (Kq:List Qq) (G:Env) (σ0:Env) (ns:List LK) (l0 l:List Qz) (i:Nat) (b:Bool):Prop where
 good:dB Kq l
 led:∃k,bO (Behind (W:=Q_ Kq) bA G) (doX (Q_ Kq)) σ0 (Qj l) k
 rest:∀j,i<=j->j<ns.length->eD (Q_ Kq) (Qj l) (ns.getD j ByteArray.empty)
 no:b=false->l=l0/\∀j,j<i->¬Behind (W:=Q_ Kq) bA G (Qj l0) (ns.getD j ByteArray.empty)
 yes:b=true->lu Kq l<lu Kq l0
variable {σ0 : Env} {l0 : List Qz}
theorem fV.start{G:Env}(b:dB Kq l0)(c:∃k,bO (Behind (W:=Q_ Kq) bA G) (doX (Q_ Kq)) σ0 (Qj l0) k)(d:eB (Q_ Kq) (Qj l0) l0 ns):fV Kq G σ0 ns l0 l0 0 false:=
 ⟨b,c,fun j _ a=>by
  rw[<-d.ready b.asc];simp only[List.getD,JV a,Lx];exact J_ a,fun _=>⟨rfl,fun j a=>aT a⟩,fun h=>by cases h⟩
theorem fV.skip{G:Env}{i:Nat}{b:Bool}(h:fV Kq G σ0 ns l0 l i b)(c:¬Behind (W:=Q_ Kq) bA G (Qj l) (ns.getD i ByteArray.empty)):fV Kq G σ0 ns l0 l (i+1) b:=
 ⟨h.good,h.led,fun j d e=>h.rest j (by omega) e,fun a=>⟨(h.no a).1,fun j d=>by
  by_cases f:j=i
  ·subst f;rw[<-(h.no a).1];exact c
  ·exact (h.no a).2 j (by omega)⟩,h.yes⟩
theorem fV.did(k:bT (Q_ Kq)){G:Env}(m:ns.Nodup){i:Nat}{b:Bool}(h:fV Kq G σ0 ns l0 l i b)(n:i<ns.length)(c:Behind (W:=Q_ Kq) bA G (Qj l) (ns.getD i ByteArray.empty))(a:Qj l (ns.getD i ByteArray.empty)=some r):fV Kq G σ0 ns l0 (doL (Q_ Kq) l r) (i+1) true:=by
 obtain⟨p,q⟩:=h.led;obtain⟨⟨s,d,e⟩,_⟩:=c;have c:Behind (W:=Q_ Kq) bA G (Qj l) (ns.getD i ByteArray.empty):=⟨⟨s,d,e⟩,by assumption⟩;rw[a] at d;cases d;have f:=y_ (W:=Q_ Kq) h.good.asc a;have j:=Di h.good a e;refine⟨qI k h.good (bF a).1 e,⟨p+1,by rw[f];exact q.snoc c⟩,fun t v w=>by rw[f];exact C_ m n h.rest t v w,fun x=>(by cases x),fun _=>?_⟩;cases b with
 | true=>have:=h.yes rfl;omega
 | false=>rw[(h.no rfl).1] at j⊢;exact j
theorem fV.GX{G:Env}(d:dB Kq l0)(e:eB (Q_ Kq) (Qj l0) l0 ns)(h:fV Kq G σ0 ns l0 l ns.length false):l=l0/\AtEnd (Behind (W:=Q_ Kq) bA G) (Qj l):=by
 obtain⟨b,f⟩:=h.no rfl;refine⟨b,fun n a=>?_⟩;rw[b] at a;have i:=(e.ready d.asc n).2 a.1;obtain⟨j,c,k⟩:=Kb i;have:=f j c;simp only[List.getD,JV c,Lx,k] at this;exact this a
theorem Tryz.bY :(prog.info? 9).map (fun i=>(i.zero,i.size,i.bytes))=some (some (.string ByteArray.empty),1,16):=by kernel_rfl
variable {l : List LK} {v : LQ} {w : LP}
theorem tO{base:Nat}{t:TypeId}{n:Nat}(h:w.ownsRow base t 1 v n (l.map Value.string)):∃a b,v= .slice a l.length b/\l.length<=b/\Strs w a l:=by
 have d:n=l.length:=by have:=h.1;simp at this;omega
 subst d;rcases h.2 with⟨rfl,e⟩|⟨g,b,k,rfl,m,f,j,_,_,_⟩
 ·exact⟨none,0,by rw[e],by omega,fun i c=>by omega⟩
 ·refine⟨_,b,rfl,j,fun i c=>⟨g,0,rfl,aO f, ?_⟩⟩;have:=h.cells (g:=g) rfl i (.string (l.getD i ByteArray.empty)) (by simp[List.getD,c]);rw[KZ] at this;exact this
theorem xL{l:List Qz}{i:Nat}(h:i<l.length):l.take (i+1)=l.take i++ [l.getD i Qz.zero]:=by
 rw[JX h];simp[List.getD,h]
def Ev(n0:Nat)(Kq:List Qq)(l:List Qz)(w':LP)(e:Ending):Prop:=∃(da:LM) (c:Nat) (ns:List LK),e= .returned (.slice da ns.length c)/\eB (Q_ Kq) (Qj l) l ns/\w'.ownsRow n0 9 1 (.slice da ns.length c) ns.length (ns.map Value.string)
theorem oM(w:LP)(a:LM)(m:Nat)(f:List Qq)(p:LM)(q s:Nat)(d:LM)(t:Nat)(l:List Qz)(a6:f.length<=1048576)(a7:l.length<=1048576)(a8:jC f)
  (a9:∀r∈l,r.over=false->r.Zj≠0->FZ f r) (hN:bN w a f) (S:bD w d l):
  Calls prog 49 #[.agg #[.slice a f.length m],.agg #[.slice p q s,.slice d l.length t]] w fun e w'=>Ev w.heap.size f l w' e/\K_ w w':=by
 obtain⟨c,v⟩:=aj ((w.alloc (.cells #[.slice a f.length m] 25)).alloc (.cells #[.slice p q s,.slice d l.length t] 29));have T:K_ w c:=by rw[v];exact (ag _ _).alloc _
 have b0:c.heap.size=w.heap.size+2:=by rw[v];simp
 have b1:c.cell? ⟨w.heap.size,0,none⟩=some (.slice a f.length m):=by rw[v,K_.cell (w:=w.alloc (.cells #[.slice a f.length m] 25)) (ag _ _) (by simp)];exact Xz w _ _ 0 _ rfl
 have s0:c.cell? ⟨w.heap.size+1,0,none⟩=some (.slice p q s):=by have:=Xz (w.alloc (.cells #[.slice a f.length m] 25)) #[.slice p q s,.slice d l.length t] 29 0 _ rfl;rw[KR] at this;rw[v];exact this
 have s1:c.cell? ⟨w.heap.size+1,1,none⟩=some (.slice d l.length t):=by have:=Xz (w.alloc (.cells #[.slice a f.length m] 25)) #[.slice p q s,.slice d l.length t] 29 1 _ rfl;rw[KR] at this;rw[v];exact this
 have U:w.heap.size<c.heap.size:=by omega
 have J:w.heap.size+1<c.heap.size:=by omega
 have V:K_ c (c.alloc (.cells #[] 9)):=ag _ _;have W:Hid ((c.alloc (.cells #[] 9)).ownsRow c.heap.size 9 1 (.slice (some ⟨c.heap.size,0,none⟩) 0 0) 0 (([]:List LK).map Value.string)):=KG c #[] 0 (JP _) (JR _) rfl;have C:=Kz T;clear T b0;go_enter func49,ntmps49
 go_upto_region 1 with fail
 rw[<-v];clear v;go_wp2
 go_loopg [5,6] l.length (fun gg x5 x6 wr=>∃(i:Nat) (h:List LK),x6= .int .i64 (i:Int)/\i+gg=l.length/\h.length<=i/\Hid (eB (Q_ f) (Qj l) (l.take i) h)/\K_ c wr/\Hid (wr.ownsRow c.heap.size 9 1 x5 h.length (h.map Value.string)))
 case atStart=>exact⟨0,[],rfl,by omega,JP _,Kz .nil,V,W⟩
 case round=>
  clear W V;obtain⟨i,h,rfl,hi,c5,L,j,D⟩:=hrel;obtain⟨X,Y,rfl⟩:=ax D.o;have Z:=(j.cell U).trans b1;have c1:=(j.cell J).trans s0;have c2:=(j.cell J).trans s1;have y0:w.heap.size<wr.heap.size:=JQ U j.size;have M:w.heap.size+1<wr.heap.size:=JQ J j.size;by_cases b2:(i:Int)<(l.length:Int)
  ·have E:i<l.length:=by omega
   obtain⟨b,o,xa,xc,rfl,n,k,hT,hx⟩:=(S.kept (C.o.trans j)) i E;obtain⟨r,F⟩:=aj (l.getD i Qz.zero);rw[<-F] at k hT;have b3:r∈l:=by rw[F];simp[List.getD,E]
   have N:=k 0 _ rfl;have t1:=k 1 _ rfl;have t2:=k 2 _ rfl;have t3:=k 3 _ rfl;have t4:=k 4 _ rfl;have t5:=k 5 _ rfl;have t6:=k 6 _ rfl;rw[La] at N;have a0:=Kz F;clear k F;have a1:Hid (∀w',K_ wr w'->w'.cell? ⟨w.heap.size,0,none⟩=some (.slice a f.length m)/\w'.cell? ⟨w.heap.size+1,0,none⟩=some (.slice p q s)/\w'.cell? ⟨w.heap.size+1,1,none⟩=some (.slice (some ⟨b,o,none⟩) l.length t)/\w'.cell? ⟨b,o+i*7,none⟩=some (.string r.name)/\w'.cell? ⟨b,o+i*7+1,none⟩=some (.bool r.over)/\w'.cell? ⟨b,o+i*7+2,none⟩=some (.bool r.fail)/\w'.cell? ⟨b,o+i*7+3,none⟩=some (.string r.text)/\w'.cell? ⟨b,o+i*7+4,none⟩=some (.int .i64 r.at')/\w'.cell? ⟨b,o+i*7+5,none⟩=some (.int .i64 r.Zj)/\w'.cell? ⟨b,o+i*7+6,none⟩=some (.slice xa r.texts.length xc)):=fun w' K=>⟨(K.cell y0).trans Z,(K.cell M).trans c1,(K.cell M).trans c2,(K.cell n).trans N,(K.cell n).trans t1,(K.cell n).trans t2,(K.cell n).trans t3,(K.cell n).trans t4,(K.cell n).trans t5,(K.cell n).trans t6⟩
   go_upto_region 5 with fail
   refine bf 7 a1.o fun wd O A=>?_
   refine au 0 A ?_;refine af 4 A ?_;refine af 5 A ?_;refine af 6 A ?_;refine ak 7 (fun K G=>?_);go_simp
   go_at_call 87
   refine (yh wd a m f p q s (some ⟨b,o,none⟩) t l r xa xc a6 a7 a8 (a9 r b3) (hN.kept (C.o.trans (j.trans O))) (S.kept (C.o.trans (j.trans O)))).mono ?_;rintro e x ⟨P,k3⟩;have y:=O.trans k3;clear k3;rcases P.cases with⟨rfl,a2⟩|⟨rfl,a3⟩
   ·dsimp only;refine ae G (fun B=>absurd rfl B) ?_;clear G K A;refine aB ?_;have HY:=Kz a2;clear a2 P N t1 t2 t3 t4 t5 t6 Z c1 c2;obtain⟨u0,u1,u2,v0,_⟩:=a1.o _ y;have c6:=Nat.lt_of_lt_of_le n y.size;have c7:=Nat.lt_of_lt_of_le M y.size;have Q:K_ x (x.alloc (.cells #[.string r.name] 9)):=ag _ _;have a4:=Kz (ai D.o (y.trans Q));have KK:=Kz (j.trans (y.trans Q));have b4:c.heap.size<=(x.alloc (.cells #[.string r.name] 9)).heap.size:=KK.out.size;have b5:Hid (∀H u,([.string r.name]:List LQ)[H]? =some u->(x.alloc (.cells #[.string r.name] 9)).cell? ((⟨x.heap.size,0,none⟩:Addr).add H)=some u):=fun H u I=>by rw[Addr.add_mid];exact Xz x #[.string r.name] 9 H u I
    have b6:Hid (∀u∈([.string r.name]:List LQ),u.oneCell'=true):=fun u I=>by simp only[Lb,Lc,or_false] at I;subst I;rfl
    have c8:h.length<=1048576:=by omega
    have c9:(i:Int)<(l.length:Int):=b2;obtain⟨ic,b7,b8,b9,c0⟩:=aQ Tryz.bY;clear Q;go_wp2_with (at_builtin;refine wpList_append_own _ rfl (.tmp 23) (.tmp 30) 26 rfl c.heap.size 9 ic _ 1 16 underlying26 b7 b8 b9 c0 rfl (by decide) (.slice X h.length Y) h.length (h.map Value.string) rfl a4.o ⟨x.heap.size,0,none⟩ 1 1 [.string r.name] rfl rfl b5.o b6.o (by unfold maxLen;omega) (by omega) b4 ?_;intro v' w6 R a5 _;have KP:=aG KK.out (JP _) a4.o a5;have HP:=Kz R;obtain⟨d0,d1,rfl⟩:=ax R;clear R a5)
    go_roundg (gk-1)
    case measure=>omega
    case rel=>exact⟨i+1,h++ [r.name],by go_num,by omega,by rw[KS];show h.length+1<=i+1;omega,Kz (by rw[xL E,<-a0.o];exact L.o.yes HY.o),KP,Kz (by rw[LA,KS];exact HP.o)⟩
   ·dsimp only;refine ae G (fun B=>absurd rfl B) ?_;clear G K A;refine aB ?_;have c3:=Kz a3;clear a3 P;go_wp2
    go_roundg (gk-1)
    case measure=>omega
    case rel=>exact⟨i+1,h,by go_num,by omega,by omega,Kz (by rw[xL E,<-a0.o];exact L.o.no c3.o),j.trans y,Kz (ai D.o y)⟩
  ·have c4:i=l.length:=by omega
   have HT:=Kz (bC (base':=w.heap.size) D.o C.o.size);go_wp2
   go_ret
   refine⟨⟨X,Y,h,rfl, ?_,HT.o⟩,C.o.trans j⟩;have B:=L.o;rw[c4,KI] at B;exact B
theorem kX(l:List Xq)(x:Xq):aM (l++ [x])=aM l++if x.fail=true then [] else [x.text]:=by
 unfold aM;rw[List.filter_append,LA];cases a:x.fail <;> simp[a]
def FM(xs:List Xq)(w':LP)(e:Ending):Prop:=∃(g c:Nat),e= .returned (.slice (some ⟨g,0,none⟩) (aM xs).length c)/\Strs w' (some ⟨g,0,none⟩) (aM xs)
theorem Am(w:LP)(d:LM)(H:Nat)(a:List Xq)(a1:a.length<=1000)(I:ed w d a):
  Calls prog 119 #[.slice d a.length H] w fun e w'=>FM a w' e/\K_ w w':=by
 have v:K_ w (w.alloc (.cells #[] 9)):=ag _ _;have y:Hid ((w.alloc (.cells #[] 9)).ownsRow w.heap.size 9 1 (.slice (some ⟨w.heap.size,0,none⟩) 0 0) 0 (([]:List LK).map Value.string)):=KG w #[] 0 (JP _) (JR _) rfl;go_enter func119,ntmps119
 go_wp2
 go_loopg [3,4] a.length (fun J K L wr=>∃(i:Nat) (g b:Nat),K= .slice (some ⟨g,0,none⟩) (aM (a.take i)).length b/\L= .int .i64 (i:Int)/\i+J=a.length/\(aM (a.take i)).length<=i/\K_ w wr/\Hid (wr.ownsRow w.heap.size 9 1 (.slice (some ⟨g,0,none⟩) (aM (a.take i)).length b) (aM (a.take i)).length ((aM (a.take i)).map Value.string)))
 case atStart=>exact⟨0,w.heap.size,0,rfl,rfl,by omega,JP _,v,y⟩
 case round=>
  clear y v;obtain⟨i,g,b,rfl,rfl,hi,M,h,f⟩:=hrel;by_cases a2:(i:Int)<(a.length:Int)
  ·have p:i<a.length:=by omega
   obtain⟨a3,o,rfl,hb,j⟩:=(I.kept h) i p;obtain⟨x,q⟩:=aj (a.getD i Xq.zero);rw[<-q] at j;have r:=j 0 _ rfl;have t1:=j 1 _ rfl;rw[La] at r;have k:Hid (a.take (i+1)=a.take i++ [x]):=by show _=_;rw[JX p,q];simp[List.getD,p]
   obtain⟨c,s⟩:=aj (aM (a.take i));rw[<-s] at M f⊢;have A:=Kz s;clear j q s;cases l:x.fail
   ·rw[l] at r;have t:K_ wr (wr.alloc (.cells #[.string x.text] 9)):=ag _ _;have B:=Kz (ai f.o t);have C:=Kz (h.trans t);have N:w.heap.size<=(wr.alloc (.cells #[.string x.text] 9)).heap.size:=C.out.size;have O:Hid (∀m u,([.string x.text]:List LQ)[m]? =some u->(wr.alloc (.cells #[.string x.text] 9)).cell? ((⟨wr.heap.size,0,none⟩:Addr).add m)=some u):=fun m u n=>by rw[KZ];exact Xz wr #[.string x.text] 9 m u n
    have P:Hid (∀u∈([.string x.text]:List LQ),u.oneCell'=true):=fun u n=>by simp only[Lb,Lc,or_false] at n;subst n;rfl
    obtain⟨Q,R,S,T,U⟩:=aQ Tryz.bY;clear t;go_wp2_with (at_builtin;refine wpList_append_lies _ rfl (.tmp 18) (.tmp 24) 26 rfl w.heap.size 9 Q _ 1 16 underlying26 R S T U rfl (by decide) (.slice (some ⟨g,0,none⟩) c.length b) c.length (c.map Value.string) rfl B.o ⟨wr.heap.size,0,none⟩ 1 1 [.string x.text] rfl rfl O.o P.o (by omega) (by unfold maxLen;omega) (by omega) N _ rfl ?_;intro V W w6 D E X Y;have Z:=aG C.out (JP _) B.o E;have HP:=Kz D;clear D E X Y)
    go_roundg (gk-1)
    case measure=>omega
    case rel=>
     have e:aM (a.take (i+1))=c++ [x.text]:=by rw[k.o,kX,<-A.o,l];rfl
     exact⟨i+1,V,W,by rw[e,KS];rfl,by go_num,by omega,by rw[e,KS];show c.length+1<=i+1;omega,Z,Kz (by rw[e,LA,KS];exact HP.o)⟩
   ·rw[l] at r;go_wp2
    go_roundg (gk-1)
    case measure=>omega
    case rel=>
     have e:aM (a.take (i+1))=c:=by rw[k.o,kX,<-A.o,l];simp
     exact⟨i+1,g,b,by rw[e],by go_num,by omega,by rw[e];omega,h,Kz (by rw[e];exact f.o)⟩
  ·have a0:i=a.length:=by omega
   have e:aM (a.take i)=aM a:=by rw[a0,KI]
   rw[e] at f⊢;obtain⟨d2,c2,F,a4,G⟩:=tO f.o;simp only[KX,true_and] at F;obtain⟨rfl,rfl⟩:=F;have k:=Kz G;clear G e;go_wp2
   go_ret
   exact⟨⟨g,b,rfl,k.o⟩,h⟩
theorem Tryz.lW :(prog.info? 40).map (·.size)=some 7:=by kernel_rfl
theorem oL{b o n:Nat}{cs:List LQ}(h:w.rangeAt b 0 cs)(d:Row w b n)(f:o<n)(v:LQ):(w.setCell ⟨b,o,none⟩ v).rangeAt b 0 (cs.set o v):=by
 intro j u a;rw[KH];rw[List.getElem?_set] at a;by_cases e:o=j
 ·subst e;rw[Lt rfl] at a;by_cases c:o<cs.length
  ·rw[Lt c] at a;cases a;exact bG d f _
  ·rw[Lu c] at a;cases a
 ·rw[Lu e] at a;rw[Xx e];have:=h j u a;rw[KH] at this;exact this
structure iG (w:LP) (b:Nat) (r:Qz) (xa:LM) (xc:Nat):Prop where
 row:aC w b 40 7
 rng:w.rangeAt b 0 (r.cells xa xc)
variable {xc : Nat} {xa : LM} {r : Qz}
theorem iG.all{b:Nat}(h:iG w b r xa xc):w.cell? ⟨b,0,none⟩=some (.string r.name)/\w.cell? ⟨b,1,none⟩=some (.bool r.over)/\w.cell? ⟨b,2,none⟩=some (.bool r.fail)/\w.cell? ⟨b,3,none⟩=some (.string r.text)/\w.cell? ⟨b,4,none⟩=some (.int .i64 r.at')/\w.cell? ⟨b,5,none⟩=some (.int .i64 r.Zj)/\w.cell? ⟨b,6,none⟩=some (.slice xa r.texts.length xc):=by
 have a:∀j v,(r.cells xa xc)[j]? =some v->w.cell? ⟨b,j,none⟩=some v:=fun j v f=>by have:=h.rng j v f;rw[KH] at this;exact this
 exact⟨a 0 _ rfl,a 1 _ rfl,a 2 _ rfl,a 3 _ rfl,a 4 _ rfl,a 5 _ rfl,a 6 _ rfl⟩
theorem iG.kept{w':LP}{b:Nat}(h:iG w b r xa xc)(k:K_ w w'):iG w' b r xa xc:=⟨h.row.kept k,k.range h.row.lt h.rng⟩
theorem iG.put{b:Nat}{r':Qz}{xa':LM}{xc' o:Nat}(h:iG w b r xa xc)(c:o<7)(e:r'.cells xa' xc'= (r.cells xa xc).set o v):iG (w.setCell ⟨b,o,none⟩ v) b r' xa' xc':=⟨h.row.set _,by rw[e];exact oL h.rng h.row.row c v⟩
def dV(n0:Nat)(w:LP)(c:Nat)(a:LM)(l:List LK):Prop:=∀i,i<l.length->∃b o,a=some ⟨b,o,none⟩/\b<w.heap.size/\(b<n0\/c+2<=b)/\w.cell? ⟨b,o+i,none⟩=some (.string (l.getD i ByteArray.empty))
variable {c n0 : Nat} {a : LM}
theorem dV.strs(h:dV n0 w c a l):Strs w a l:=fun i d=>by
 obtain⟨b,o,e,f,_,j⟩:=h i d;exact⟨b,o,e,f,j⟩
theorem dV.kept{w':LP}(h:dV n0 w c a l)(k:K_ w w'):dV n0 w' c a l:=fun i d=>by
 obtain⟨f,o,e,b,j,m⟩:=h i d;exact⟨f,o,e,JQ b k.size,j,(k.cell b).trans m⟩
theorem dV.set{p:Nat}(m:n0<=c)(h:dV n0 w c a l)(v:LQ):dV n0 (w.setCell ⟨c,p,none⟩ v) c a l:=fun i d=>by
 obtain⟨b,o,e,f,j,k⟩:=h i d;exact⟨b,o,e,by rw[size_setCell];exact f,j,by rw[Zk (by omega)];exact k⟩
theorem dV.set1{p:Nat}(m:n0<=c)(h:dV n0 w c a l)(v:LQ):dV n0 (w.setCell ⟨c+1,p,none⟩ v) c a l:=fun i d=>by
 obtain⟨b,o,e,f,j,k⟩:=h i d;exact⟨b,o,e,by rw[size_setCell];exact f,j,by rw[Zk (by omega)];exact k⟩
theorem dV.sets(b:n0<=c):∀(vs:List LQ) (p:Nat) {w:LP},dV n0 w c a l->dV n0 (w.setCells (c+1) p vs) c a l
 | [],_,_,h=>h
 | v :: r,p,_,h=>by rw[World.setCells];exact dV.sets b r (p+1) (h.set1 b v)
theorem dV.old{w':LP}(h:Strs w a l)(k:K_ w w')(m:w.heap.size<=n0):dV n0 w' c a l:=fun i d=>by
 obtain⟨f,o,e,b,j⟩:=h i d;exact⟨f,o,e,JQ b k.size,by omega,(k.cell b).trans j⟩
theorem dV.owned{base:Nat}{t:TypeId}{n:Nat}(h:w.ownsRow base t 1 v n (l.map Value.string))(m:c+2<=base):∃a b,v= .slice a l.length b/\dV n0 w c a l/\(a=none->b=0):=by
 have f:n=l.length:=by have:=h.1;simp at this;omega
 subst f;rcases h.2 with⟨rfl,j⟩|⟨g,b,p,rfl,q,k,r,_,_,_⟩
 ·exact⟨none,0,by rw[j],(fun i d=>by omega),fun _=>rfl⟩
 ·refine⟨_,b,rfl,(fun i d=>⟨g,0,rfl,aO k,by omega, ?_⟩),fun e=>by cases e⟩;have:=h.cells (g:=g) rfl i (.string (l.getD i ByteArray.empty)) (by simp[List.getD,d]);rw[KZ] at this;exact this
structure NSt (n0:Nat) (w wr:LP) (ab:Nat) (cost:Int) (sa:LM) (sn sc:Nat) (r:Qz) (xa:LM) (xc:Nat):Prop where
 kw:K_ w wr
 box:iG wr (w.heap.size+2) r xa xc
 res:aC wr (w.heap.size+2+1) 40 7
 a0:wr.cell? ⟨ab,0,none⟩=some (.int .i64 cost)
 a1:wr.cell? ⟨ab,1,none⟩=some (.slice sa sn sc)
 abl:w.heap.size+4<=ab
 abz:ab<wr.heap.size
 low:n0<=w.heap.size
 txt:dV n0 wr (w.heap.size+2) xa r.texts
 nil:xa=none->xc=0
section
variable {n0 : Nat} {w wr w' : LP} {ab : Nat} {cost : Int} {sa : LM} {sn sc : Nat} {r r' : Qz} {xa xa' : LM} {xc xc' : Nat}
theorem NSt.kept(h:NSt n0 w wr ab cost sa sn sc r xa xc)(k:K_ wr w'):NSt n0 w w' ab cost sa sn sc r xa xc:=
 ⟨h.kw.trans k,h.box.kept k,h.res.kept k,(k.cell h.abz).trans h.a0,(k.cell h.abz).trans h.a1,h.abl,JQ h.abz k.size,h.low,h.txt.kept k,h.nil⟩
theorem NSt.Jp(h:NSt n0 w wr ab cost sa sn sc r xa xc){o:Nat}(b:o<7)(e:r'.cells xa' xc'= (r.cells xa xc).set o v)(c:dV n0 wr (w.heap.size+2) xa' r'.texts)(d:xa'=none->xc'=0):NSt n0 w (wr.setCell ⟨w.heap.size+2,o,none⟩ v) ab cost sa sn sc r' xa' xc':=by
 have a:ab≠w.heap.size+2:=by have:=h.abl;omega
 have f:w.heap.size+2+1≠w.heap.size+2:=by omega
 exact⟨Below.setCell h.kw (p:=⟨w.heap.size+2,o,none⟩) (by show w.heap.size<=w.heap.size+2;omega) v,h.box.put b e,h.res.block (Below.heap_setCell _ _ _ _ f),by rw[Zk a];exact h.a0,by rw[Zk a];exact h.a1,h.abl,by rw[size_setCell];exact h.abz,h.low,c.set (by have:=h.low;omega) v,d⟩
theorem NSt.put(h:NSt n0 w wr ab cost sa sn sc r xa xc){o:Nat}(b:o<7)(e:r'.cells xa xc= (r.cells xa xc).set o v)(c:r'.texts=r.texts):NSt n0 w (wr.setCell ⟨w.heap.size+2,o,none⟩ v) ab cost sa sn sc r' xa xc:=
 h.Jp b e (by rw[c];exact h.txt) h.nil
end
theorem NSt.made{b c:LP}{a:Nat}{cost:Int}{e:LM}{f h:Nat}(k:K_ w b)(v:b.heap.size=w.heap.size+4)(K:K_ b c)(m:iG b (w.heap.size+2) r xa xc)(n:aC b (w.heap.size+2+1) 40 7)(q:n0<=w.heap.size)(s:dV n0 b (w.heap.size+2) xa r.texts)(t:xa=none->xc=0)(j:b.heap.size<=a)(i:aC c a 77 2):
  K_ b ((c.setCell ⟨a,0,none⟩ (.int .i64 cost)).setCell ⟨a,1,none⟩ (.slice e f h))/\NSt n0 w ((c.setCell ⟨a,0,none⟩ (.int .i64 cost)).setCell ⟨a,1,none⟩ (.slice e f h)) a cost e f h r xa xc:=by
 have d:K_ b ((c.setCell ⟨a,0,none⟩ (.int .i64 cost)).setCell ⟨a,1,none⟩ (.slice e f h)):=Below.setCell (Below.setCell K (p:=⟨a,0,none⟩) j _) (p:=⟨a,1,none⟩) j _;refine⟨d,k.trans d,m.kept d,n.kept d,(Xx (by omega) _).trans (bG i.row (by omega) _),bG (i.set _).row (by omega) _,by omega, ?_,q,s.kept d,t⟩;rw[size_setCell,size_setCell];exact i.lt
def uC(n0 c:Nat)(W:fQ)(σ:Env)(r:Qz)(w':LP)(e:Ending):Prop:=
 ∃(xa':LM) (xc':Nat) (ka:LM) (kc:Nat),e= .returned (.tuple #[.agg ((Y_ W σ r).1.cells xa' xc').toArray,.slice ka (Y_ W σ r).2.length kc])/\dV n0 w' c xa' (Y_ W σ r).1.texts/\(xa'=none->xc'=0)/\dV n0 w' c ka (Y_ W σ r).2
theorem bQ{g:Nat}(a:w.heap.size<=g):∀(vs:List LQ) (o:Nat) {u:LP},K_ w u->K_ w (u.setCells g o vs)
 | [],_,_,h=>h
 | v :: r,o,_,h=>by rw[World.setCells];exact bQ a r (o+1) (Below.setCell h (p:=⟨g,o,none⟩) a v)
theorem NSt.ends{W:fQ}{σ:Env}{wr:LP}{f:Nat}{cost:Int}{i:LM}{j k:Nat}{r':Qz}{asks:List LK}{a:LM}{c d:Nat}{e:Ending}(h:NSt n0 w wr f cost i j k r' xa xc)(b:Y_ W σ r= (r',asks))(l:dV n0 wr (w.heap.size+2) a asks)(m:c=asks.length)
 (n:e= .returned (.tuple #[.agg (r'.cells xa xc).toArray,.slice a c d])):uC n0 (w.heap.size+2) W σ r (wr.setCells (w.heap.size+2+1) 0 (r'.cells xa xc)) e/\K_ w (wr.setCells (w.heap.size+2+1) 0 (r'.cells xa xc)):=by
 refine⟨⟨xa,xc,a,d, ?_, ?_,h.nil, ?_⟩,bQ (by omega) _ _ h.kw⟩
 ·rw[b,n,m]
 ·rw[b];exact h.txt.sets (by have:=h.low;omega) _ _
 ·rw[b];exact l.sets (by have:=h.low;omega) _ _
theorem Tryz.ou :(prog.info? 40).map (fun i=>(i.zero,i.size,i.bytes))=some (some (.agg #[.string ⟨#[]⟩,.bool false,.bool false,.string ⟨#[]⟩,.int .i64 0,.int .i64 0,.slice none 0 0]),7,80):=by kernel_rfl
def mh(w:LP)(P:Nat->Prop)(a:LM)(l:List Qz):Prop:=
 ∀i,i<l.length->∃b o xa xc,a=some ⟨b,o,none⟩/\b<w.heap.size/\w.rangeAt b (o+i*7) ((l.getD i Qz.zero).cells xa xc)/\Strs w xa (l.getD i Qz.zero).texts/\(xa=none->xc=0)/\(∀ad:Addr,xa=some ad->P ad.block)
variable {l : List Qz} {P : Nat -> Prop} {a : LM} {w w' : LP}
theorem mh.kept(h:mh w P a l)(k:K_ w w'):mh w' P a l:=by
 intro i c;obtain⟨d,o,e,f,j,b,m,n,p⟩:=h i c;exact⟨d,o,e,f,j,JQ b k.size,k.range b m,n.kept k,p⟩
theorem mh.runs(h:mh w P a l):bD w a l:=by
 intro i c;obtain⟨b,o,d,f,e,j,k,m,n,_⟩:=h i c;exact⟨b,o,d,f,e,j,k,m,n⟩
theorem bD.all(h:bD w a l):mh w (fun _=>True) a l:=by
 intro i c;obtain⟨b,o,d,f,e,j,k,m,n⟩:=h i c;exact⟨b,o,d,f,e,j,k,m,n,fun _ _=>trivial⟩
def aW(w:LP)(P:Nat->Prop)(xs:List LQ)(l:List Qz):Prop:=xs.length=l.length*7/\∀i,i<l.length->∃xa xc,(xs.drop (i*7)).take 7= (l.getD i Qz.zero).cells xa xc/\Strs w xa (l.getD i Qz.zero).texts/\(xa=none->xc=0)/\(∀ad:Addr,xa=some ad->P ad.block)
theorem aW.nil(w:LP)(P:Nat->Prop):aW w P [] []:=⟨rfl,fun i a=>by simp at a⟩
variable {xs : List LQ}
theorem aW.kept(h:aW w P xs l)(k:K_ w w'):aW w' P xs l:=⟨h.1,fun i a=>by obtain⟨b,c,d,e,f⟩:=h.2 i a;exact⟨b,c,d,e.kept k,f⟩⟩
theorem aW.snoc{r:Qz}{xa:LM}{xc:Nat}(h:aW w P xs l)(e:Strs w xa r.texts)(f:xa=none->xc=0)(j:∀ad:Addr,xa=some ad->P ad.block):aW w P (xs++r.cells xa xc) (l++ [r]):=by
 refine⟨by simp[h.1,Qz.cells];omega,fun i c=>?_⟩;rw[KS] at c;simp only[KY,List.length_nil] at c;by_cases d:i<l.length
 ·have a:(l++ [r]).getD i Qz.zero=l.getD i Qz.zero:=by simp[List.getD,Lh d]
  have b:((xs++r.cells xa xc).drop (i*7)).take 7= (xs.drop (i*7)).take 7:=by
   rw[List.drop_append_of_le_length (by rw[h.1];omega),List.take_append_of_le_length (by rw[List.length_drop,h.1];omega)]
  rw[a,b];exact h.2 i d
 ·obtain rfl:i=l.length:=by omega
  have a:(l++ [r]).getD l.length Qz.zero=r:=by simp[List.getD]
  have b:((xs++r.cells xa xc).drop (l.length*7)).take 7=r.cells xa xc:=by
   rw[<-h.1,List.drop_left]
   rfl
  rw[a,b];exact⟨xa,xc,rfl,e,f,j⟩
variable {base n : Nat}
theorem aW.runs{v:LQ}(b:w'.ownsRow base 40 7 v n xs)(h:aW w P xs l)(k:K_ w w'):n=l.length/\∃a c,v= .slice a l.length c/\mh w' P a l:=by
 have p:n=l.length:=by have B:=b.1;have C:=h.1;omega
 subst p;refine⟨rfl, ?_⟩;rcases b.2 with⟨rfl,q⟩|⟨g,c,D,rfl,E,r,F,_,_,_⟩
 ·exact⟨none,0,by rw[q],fun i d=>by omega⟩
 ·refine⟨_,c,rfl,fun i d=>?_⟩;obtain⟨s,t,e,x,y⟩:=h.2 i d;refine⟨g,0,s,t,rfl,aO r,(fun j u f=>?_),x.kept k,y⟩;have A:j<7:=by have:=(JW.1 f).1;simpa[Qz.cells] using this
  have m:((xs.drop (i*7)).take 7)[j]? =some u:=by rw[e];exact f
  rw[List.getElem?_take,Lt A,List.getElem?_drop] at m;have:=b.cells (g:=g) rfl _ _ m;rw[KZ] at this;rw[KH] at this⊢;exact this
theorem DZ{c p:Nat}{t:TypeId}{v u:LQ}{l:List LK}(h:w.ownsRow base t 1 v n (l.map Value.string))(r:c<base):∃a b,v= .slice a l.length b/\Strs (w.setCell ⟨c,p,none⟩ u) a l/\(a=none->b=0)/\(∀d:Addr,a=some d->base<=d.block):=by
 have j:n=l.length:=by have:=h.1;simp at this;omega
 subst j;rcases h.2 with⟨rfl,k⟩|⟨g,b,s,rfl,m,q,x,_,_,_⟩
 ·exact⟨none,0,by rw[k],(fun i f=>by omega),(fun _=>rfl),fun d e=>by cases e⟩
 ·refine⟨_,b,rfl,(fun i f=>⟨g,0,rfl,by rw[size_setCell];exact aO q, ?_⟩),(fun e=>by cases e),fun d e=>by cases e;exact m⟩;have:=h.cells (g:=g) rfl i (.string (l.getD i ByteArray.empty)) (by simp[List.getD,f]);rw[KZ] at this;rw[Zk (by omega)];exact this
def IJ(w2 wr:LP)(P:Nat->Prop)(out:LQ)(p:List Qz×Bool):Prop:=∃xs,wr.ownsRow w2.heap.size 40 7 out p.1.length xs/\aW w2 P xs p.1/\K_ w2 wr
def FV(w w':LP)(P:Nat->Prop)(v:LQ)(l:List Qz):Prop:=∃w2 xs,K_ w w2/\K_ w2 w'/\w'.ownsRow w2.heap.size 40 7 v l.length xs/\aW w2 P xs l
theorem Aw(w:LP)(a:LM)(g3:Nat)(l:List Qz)(r:Qz)(xa:LM)(xc:Nat)(hl:l.length<=100000)(i5:r.texts.length<=1000)(hr:cO l)(P:Nat->Prop)(d6:∀b,w.heap.size<=b->P b)(hS:mh w P a l)(hT:Strs w xa r.texts)(hX:xa=none->xc=0):
  Calls prog 89 #[.slice a l.length g3,.agg #[.string r.name,.bool r.over,.bool r.fail,.string r.text,.int .i64 r.at',.int .i64 r.Zj,.slice xa r.texts.length xc]] w
   fun e w'=>∃v,e= .returned v/\FV w w' P v (dF l r)/\K_ w w':=by
 have⟨d7,g4,d8⟩:=dK hX hr d6;clear hX hr d6;obtain⟨d,M⟩:=aj (w.alloc (.cells #[.string r.name,.bool r.over,.bool r.fail,.string r.text,.int .i64 r.at',.int .i64 r.Zj,.slice xa r.texts.length xc] 40));have kB:K_ w d:=by rw[M];exact ag _ _
 have g5:w.heap.size+1<=d.heap.size:=by rw[M];simp
 have d9:iG d w.heap.size r xa xc:=by
  rw[M];exact⟨aC.made w #[.string r.name,.bool r.over,.bool r.fail,.string r.text,.int .i64 r.at',.int .i64 r.Zj,.slice xa r.texts.length xc] 40,Xz w _ _⟩
 have⟨a5,G⟩:=aH kB d9;clear kB d9;go_enter func89,ntmps89
 go_upto_region 1 with fail
 rw[<-M];clear M;have a6:Hid (K_ d (d.alloc (.cells #[] 9))):=ag _ _;have a7:Hid ((d.alloc (.cells #[] 9)).ownsRow d.heap.size 9 1 (.slice (some ⟨d.heap.size,0,none⟩) 0 0) 0 (([]:List LK).map Value.string)):=KG d #[] 0 (JP _) (JR _) rfl;obtain⟨ic,b7,e0,e1,e2⟩:=aQ Tryz.bY;go_cut [3] from 8 to 57 (fun s3 F=>∃j s,s3= .pointer (some ⟨w.heap.size,0,none⟩)/\K_ w F/\iG F w.heap.size r j s/\Strs F j r.texts/\(j=none->s=0)/\(∀y:Addr,j=some y->P y.block))
 case first=>
  obtain⟨q0,q1,q2,q3,q4,q5,q6⟩:=G.o.all;have qz:=G.o.row.lt;obtain⟨_,g6⟩:=G.o.row.row.at (i:=6) (by omega);rcases (show xa=none\/∃y,xa=some y from by cases xa with|none=>exact .inl rfl|some x=>exact .inr ⟨x,rfl⟩) with rfl|⟨y,rfl⟩
  ·have h0:r.texts=[]:=by
    cases g7:r.texts with
    | nil=>rfl
    | cons t ts=>exfalso;obtain⟨b,o,e,_⟩:=hT 0 (by rw[g7];simp);cases e
   have e3:=d7.o rfl;have e4:d.cell? ⟨w.heap.size,6,none⟩=some (.slice none 0 0):=by rw[q6,h0,e3];rfl
   have H0:=Kz h0;clear q6 h0 e3;have q6:=e4;clear e4;go_wp2_with (at_builtin;refine wpList_append_own_none _ rfl (.tmp 8) (.tmp 10) 26 rfl d.heap.size 9 ic 1 underlying26 b7 (.slice (some ⟨d.heap.size,0,none⟩) 0 0) 0 [] rfl a7.o rfl ?_)
   go_meet
   exact⟨_,_,rfl,K_.alloc (Below.setCell a5.o (p:=⟨w.heap.size,6,none⟩) (JP _) _) _,(G.o.put (xa':=some ⟨d.heap.size,0,none⟩) (xc':=0) (by omega) (by simp[Qz.cells,H0.o])).kept (ag _ _),(fun a8 hi=>by rw[H0.o] at hi;cases hi),(fun e=>by cases e),fun y e=>by cases e;exact d8.o _ (by show w.heap.size<=d.heap.size;omega)⟩
  ·have g8:Hid (∀m u,(r.texts.map Value.string)[m]? =some u->(d.alloc (.cells #[] 9)).cell? (y.add m)=some u):=fun m u p=>by
    have hj:m<r.texts.length:=by have:=(JW.1 p).1;simpa using this
    obtain⟨b,o,e,h,q⟩:=(hT.kept (a5.o.trans a6.o)) m hj;simp only[KT] at e;subst e;rw[KZ,q];simp[hj] at p;simp[List.getD,hj,p]
   have g9:Hid (∀u∈r.texts.map Value.string,u.oneCell'=true):=fun u p=>by obtain⟨x,_,rfl⟩:=Ku.1 p;rfl
   have h1:d.heap.size<=(d.alloc (.cells #[] 9)).heap.size:=a6.o.size;go_wp2_with (at_builtin;refine wpList_append_own _ rfl (.tmp 8) (.tmp 10) 26 rfl d.heap.size 9 ic _ 1 16 underlying26 b7 e0 e1 e2 rfl (by decide) (.slice (some ⟨d.heap.size,0,none⟩) 0 0) 0 [] rfl a7.o y r.texts.length xc (r.texts.map Value.string) rfl (by simp) g8.o g9.o (by unfold maxLen;omega) (by omega) h1 ?_;intro v1 w8 a9 e5 _;rw[KH,List.nil_append] at a9;have e6:=aG a6.o (JP _) a7.o e5;have h2:=Kz a9;obtain⟨h4,h5,rfl⟩:=ax a9;have b0:=Kz (G.o.kept e6);have i6:=b0.o.all.2.2.2.2.2.2;have i7:=b0.o.row.lt;obtain⟨_,i8⟩:=b0.o.row.row.at (i:=6) (by omega);clear a9 e5)
   go_meet
   obtain⟨j,s,ev,b1,N,b2⟩:=DZ (c:=w.heap.size) (p:=6) (u:= .slice h4 r.texts.length h5) h2.o (by omega);simp only[KX] at ev;obtain⟨rfl,_,rfl⟩:=ev;exact⟨_,_,rfl,Below.setCell (a5.o.trans e6) (p:=⟨w.heap.size,6,none⟩) (JP _) _,b0.o.put (by omega) rfl,b1,N,fun y e=>d8.o _ (JS (by omega) (b2 y e))⟩
 case rest=>
  obtain⟨j,s,rfl,k2,b8,b1,e7,b2⟩:=hcut;obtain⟨w2,rfl⟩:=aj wc;obtain⟨b9,c7,c8,N,c9⟩:=aQ Tryz.ou;have H:=Kz b8;have h6:=Kz (hS.kept k2);have⟨b3,e8,e9,f0⟩:=lg k2 b1 e7 b2;have i9:=b8.row.lt;clear b1 e7 b2 b8 k2 hS hT d7 a5 G a6 a7 b7 e0 e1 e2 g5;go_wp2
  go_loopw [5,6,7] (fun out dn a8 wr=>∃k:Nat,k<=l.length/\a8= .int .i64 k/\dn= .bool (rJ l r k).2/\IJ w2 wr P out (rJ l r k)) (fun _ _ a8 _=>l.length-(intOf a8).toNat)
  case atStart=>
   exact⟨0,JR _,rfl,rfl,[],KG w2 #[] 0 (JP _) (JR _) rfl,aW.nil _ _,ag _ _⟩
  case round=>
   obtain⟨k,hk,rfl,d0,xs,A,B,C⟩:=hrel;have f1:=Ag (l:=l) (r:=r) hk;obtain⟨h7,hp⟩:=aj (rJ l r k);rw[<-hp] at d0 A B f1;obtain⟨f,i⟩:=h7;dsimp only at d0 A B f1;subst d0;have⟨O,Q,f2⟩:=dK B A hp;clear B A hp;obtain⟨R,S,T,U,V,W,X⟩:=(H.o.kept C).all;have Y:=(H.o.kept C).row.lt;have hz:=C.size;by_cases f3:k<l.length
   ·obtain⟨b,o,xa,ca,rfl,h,q,d1,f4,f5⟩:=h6.o k f3;have d2:=Kz (xQ (r:=r) f3);obtain⟨x,hx⟩:=aj (l.getD k Qz.zero);rw[<-hx,<-f2.o] at d2;rw[<-hx] at q d1;have HC:Hid (∀w',K_ w2 w'->b<w'.heap.size/\w'.cell? ⟨b,o+k*7,none⟩=some (.string x.name)/\w'.cell? ⟨b,o+k*7+1,none⟩=some (.bool x.over)/\w'.cell? ⟨b,o+k*7+2,none⟩=some (.bool x.fail)/\w'.cell? ⟨b,o+k*7+3,none⟩=some (.string x.text)/\w'.cell? ⟨b,o+k*7+4,none⟩=some (.int .i64 x.at')/\w'.cell? ⟨b,o+k*7+5,none⟩=some (.int .i64 x.Zj)/\w'.cell? ⟨b,o+k*7+6,none⟩=some (.slice xa x.texts.length ca)):=fun w' K=>⟨JQ h K.size,(K.cell h).trans (q 0 _ rfl),(K.cell h).trans (q 1 _ rfl),(K.cell h).trans (q 2 _ rfl),(K.cell h).trans (q 3 _ rfl),(K.cell h).trans (q 4 _ rfl),(K.cell h).trans (q 5 _ rfl),(K.cell h).trans (q 6 _ rfl)⟩
    have⟨h8,h9,i0⟩:=dK d1 f4 f5;clear q d1 f4 f5 hx;obtain⟨h,c0,c1,c2,c3,c4,c5,c6⟩:=HC.o wr C;have j0:(k:Int)<(l.length:Int):=by omega
    go_upto_region 7 with fail
    go_cut [31] from 14 to 50 (fun c F=>c= .bool (!i && !Op.bytesLess x.name.toList r.name.toList)/\∃n,F=wr.drewN n)
    case first=>
     cases i
     ·cases b4:Op.bytesLess x.name.toList r.name.toList
      ·go_quiet (fail)
       go_wp2
       go_meet
       exact⟨by rw[b4];rfl,nq,rfl⟩
      ·go_quiet (fail)
       go_wp2
       go_meet
       exact⟨by rw[b4];rfl,nq,rfl⟩
     ·go_quiet (fail)
      go_wp2
      go_meet
      exact⟨rfl,nq,rfl⟩
    case rest=>
     obtain⟨rfl,nq,d3⟩:=hcut;obtain⟨wq,rfl⟩:=aj wc;have Z:K_ w2 wq:=(by rw[d3];exact C.drewN nq);have b5:Hid (wq.ownsRow w2.heap.size 40 7 u5 f.length xs):=(by rw[d3];exact Q.o);clear R S T U V W X Y d3 c0 c1 c2 c3 c4 c5 c6 h;obtain⟨R,S,T,U,V,W,X⟩:=(H.o.kept Z).all;have Y:=(H.o.kept Z).row.lt;have j1:=Z.size;obtain⟨cb,d4⟩:=aj ((!i && !Op.bytesLess x.name.toList r.name.toList));rw[<-d4];have d5:=Kz d4;clear d4;go_upto_if 31 with fail
     go_cut [5,6] from 14 to 50 (fun o6 i1 F=>i1= .bool (pQ r (f,i) x).2/\IJ w2 F P o6 (pQ r (f,i) x))
     case first=>
      cases cb
      ·go_wp2
       go_meet
       have e:pQ r (f,i) x= (f,i):=(by unfold pQ;rw[if_neg];rintro⟨f6,i2⟩;have h3:=d5.o;dsimp only at f6;rw[f6,i2] at h3;cases h3);rw[e];exact⟨rfl,xs,b5.o,O.o,Z⟩
      ·go_wp2_with (at_builtin;refine wpList_append_own _ rfl (.tmp 32) (.tmp 34) 27 rfl w2.heap.size 40 b9 _ 7 80 underlying27 c7 c8 N c9 rfl (by decide) _ f.length _ rfl (ai b5.o (by repeat (first | (with_reducible exact K_.refl _) | apply K_.alloc | apply K_.drewN | apply K_.drew))) ⟨wq.heap.size,0,none⟩ 1 1 (r.cells j s) rfl rfl (fun m u p=>(by rw[KZ];exact Xz wq (r.cells j s).toArray 40 m u (by simpa using p))) (Qz.one r j s) (by unfold maxLen;omega) (by omega) (by simp;omega) ?_;intro v6 a0 D E _;have I:K_ w2 a0:=aG (Z.trans (by repeat (first | (with_reducible exact K_.refl _) | apply K_.alloc | apply K_.drewN | apply K_.drew))) (by omega) (ai b5.o (by repeat (first | (with_reducible exact K_.refl _) | apply K_.alloc | apply K_.drewN | apply K_.drew))) E;have a1:=Kz D;clear D E)
       go_meet
       have e:pQ r (f,i) x= (f++ [r],true):=(by unfold pQ;rw[Lt];have h3:=d5.o;cases i <;> cases b4:Op.bytesLess x.name.toList r.name.toList <;> simp[b4] at h3⊢);rw[e];exact⟨rfl,_,(by rw[KS];exact a1.o),O.o.snoc e8.o e9.o f0.o,I⟩
     case rest=>
      obtain⟨rfl,f7,A,B,J⟩:=hcut;obtain⟨wt,rfl⟩:=aj wc;have f8:(pQ r (f,i) x).1.length<=f.length+1:=by unfold pQ;split <;> simp
      have a2:Hid (rJ l r (k+1)=wH r (pQ r (f,i) x) x):=d2.o;obtain⟨i3,hq⟩:=aj (pQ r (f,i) x);rw[<-hq] at A B f8 a2⊢;obtain⟨L,qd⟩:=i3;dsimp only at A B f8;dsimp only;have⟨f9,g0⟩:=aH B A;clear B A hq R S T U V W X Y d2 O Q b5 d5;obtain⟨R,S,T,U,V,W,X⟩:=(H.o.kept J).all;have Y:=(H.o.kept J).row.lt;have j2:=J.size;obtain⟨h,c0,c1,c2,c3,c4,c5,c6⟩:=HC.o wt J;clear S T U V W X c1 c2 c3 c4 c5 c6;cases g1:(x.name.toList == r.name.toList)
      ·have a3:wH r (L,qd) x= (L++ [x],qd):=by unfold wH;rw[g1];rfl
       have a4:=Kz a3;clear a3;go_upto_region 10 with fail
       go_quiet (fail)
       obtain⟨wv,b6⟩:=aj (wt.drewN nq);rw[<-b6];have KV:K_ w2 wv:=(by rw[b6];exact J.drewN _);have g2:Hid (wv.ownsRow w2.heap.size 40 7 u5 L.length f7):=(by rw[b6];exact g0.o);clear R Y b6 c0 h;obtain⟨h,c0,c1,c2,c3,c4,c5,c6⟩:=HC.o wv KV;have j3:=KV.size;go_wp2_with (at_builtin;refine wpList_append_own _ rfl (.tmp 44) (.tmp 49) 27 rfl w2.heap.size 40 b9 _ 7 80 underlying27 c7 c8 N c9 rfl (by decide) _ L.length _ rfl (ai g2.o (by repeat (first | (with_reducible exact K_.refl _) | apply K_.alloc | apply K_.drewN | apply K_.drew))) ⟨wv.heap.size,0,none⟩ 1 1 (x.cells xa ca) rfl rfl (fun m u p=>(by rw[KZ];exact Xz wv (x.cells xa ca).toArray 40 m u (by simpa using p))) (Qz.one x xa ca) (by unfold maxLen;omega) (by omega) (by simp;omega) ?_;intro v6 a0 D E _;have I:K_ w2 a0:=aG (KV.trans (by repeat (first | (with_reducible exact K_.refl _) | apply K_.alloc | apply K_.drewN | apply K_.drew))) (by omega) (ai g2.o (by repeat (first | (with_reducible exact K_.refl _) | apply K_.alloc | apply K_.drewN | apply K_.drew))) E;have a1:=Kz D;clear D E)
       go_roundw
       case rel=>exact⟨k+1,by omega,by go_num,by rw[a2.o,a4.o],by rw[a2.o,a4.o];exact⟨_,(by rw[KS];exact a1.o),f9.o.snoc h8.o h9.o i0.o,I⟩⟩
       case measure=>simp[intOf];omega
      ·have a3:wH r (L,qd) x= (L,qd):=by unfold wH;rw[g1];rfl
       have a4:=Kz a3;clear a3;go_upto_region 10 with fail
       go_quiet (fail)
       go_wp2
       go_roundw
       case rel=>exact⟨k+1,by omega,by go_num,by rw[a2.o,a4.o],by rw[a2.o,a4.o];exact⟨f7,g0.o,f9.o,J.drewN _⟩⟩
       case measure=>simp[intOf];omega
   ·have i4:k=l.length:=by omega
    subst i4;have HE:=Kz (G_ (r:=r) g4.o);rw[<-f2.o] at HE;cases i
    ·go_wp2_with (at_builtin;refine wpList_append_own _ rfl (.tmp 53) (.tmp 55) 27 rfl w2.heap.size 40 b9 _ 7 80 underlying27 c7 c8 N c9 rfl (by decide) _ f.length _ rfl (ai Q.o (by repeat (first | (with_reducible exact K_.refl _) | apply K_.alloc | apply K_.drewN | apply K_.drew))) ⟨wr.heap.size,0,none⟩ 1 1 (r.cells j s) rfl rfl (fun m u p=>(by rw[KZ];exact Xz wr (r.cells j s).toArray 40 m u (by simpa using p))) (Qz.one r j s) (by unfold maxLen;omega) (by omega) (by simp;omega) ?_;intro v6 a0 D E _;have I:K_ w2 a0:=aG (C.trans (by repeat (first | (with_reducible exact K_.refl _) | apply K_.alloc | apply K_.drewN | apply K_.drew))) (by omega) (ai Q.o (by repeat (first | (with_reducible exact K_.refl _) | apply K_.alloc | apply K_.drewN | apply K_.drew))) E;have a1:=Kz D;clear D E)
     go_ret
     have e:dF l r=f++ [r]:=by rw[<-HE.o];rfl
     rw[e];exact⟨v6,rfl,⟨w2,_,b3.o,I,(by rw[KS];exact a1.o),O.o.snoc e8.o e9.o f0.o⟩,b3.o.trans I⟩
    ·go_wp2
     go_ret
     have e:dF l r=f:=by rw[<-HE.o];rfl
     rw[e];exact⟨_,rfl,⟨w2,xs,b3.o,C,Q.o,O.o⟩,b3.o.trans C⟩
structure KnX (wz wr:LP) (kb:Nat) (a:LM) (n cap:Nat) (R:List Qz) (d:LM) (dc:Nat) (xs:List LQ):Prop where
 kw:K_ wz wr
 known:jk wr kb a n cap d R.length dc
 own:wr.ownsRow wz.heap.size 40 7 (.slice d R.length dc) R.length xs
 pack:aW wz (fun _=>True) xs R
variable {R : List Qz} {cap dc kb : Nat} {d : LM} {wr wz : LP}
theorem KnX.kept(h:KnX wz wr kb a n cap R d dc xs)(k:K_ wr w'):KnX wz w' kb a n cap R d dc xs:=
 ⟨h.kw.trans k,h.known.kept k,ai h.own k,h.pack⟩
theorem KnX.runs(h:KnX wz wr kb a n cap R d dc xs):bD wr d R:=by
 obtain⟨_,e,f,b,c⟩:=aW.runs h.own h.pack h.kw;simp only[KX,true_and] at b;rw[b.1];exact c.runs
theorem own_ne{v:LQ}(b:aC w kb 140 2)(h:w.ownsRow base 40 7 v n xs):some kb≠v.ownBlock:=by
 rcases h.2 with⟨rfl,_⟩|⟨g,d,f,rfl,_,c,_⟩
 ·intro e;cases e
 ·intro e;simp only[Value.ownBlock,KT] at e;subst e;obtain⟨i,a,_⟩:=b;rw[c] at a;simp only[KT,Obj.cells.injEq] at a;exact Lv a.2.1 (by decide)
theorem KnX.block{W e:LP}(h:KnX wz wr kb a n cap R d dc xs)(c:K_ wr W)(f:W.grownBy e (Value.slice d R.length dc).ownBlock):e.heap[kb]? =W.heap[kb]? :=
 f.block kb (h.known.kept c).row.lt (own_ne (h.known.kept c).row (ai h.own c))
theorem KnX.grown{W c:LP}(h:KnX wz wr kb a n cap R d dc xs)(b:K_ wr W)(i:W.grownBy c (Value.slice d R.length dc).ownBlock):K_ wz c/\jk c kb a n cap d R.length dc:=by
 have e:=h.block b i;have f:=h.known.kept b;exact⟨aG (h.kw.trans b) (JP _) (ai h.own b) i,f.row.block e,(Ke (w:=W) e).trans f.web,(Ke (w:=W) e).trans f.runs⟩
theorem Ei{size:Nat}{e:TypeId}{v:LQ}(h:w.ownsRow base e size v n xs){o:Nat}(a:some kb≠v.ownBlock)(u:LQ):(w.setCell ⟨kb,o,none⟩ u).ownsRow base e size v n xs:=by
 refine⟨h.1, ?_⟩;rcases h.2 with b|⟨g,c,d,rfl,f,i,rest⟩
 ·exact .inl b
 ·refine .inr ⟨g,c,d,rfl,f, ?_,rest⟩;rw[Below.heap_setCell _ _ _ _ (fun e=>a (by simp[Value.ownBlock,e]))];exact i
theorem KnX.next{W c:LP}{e:Nat}{f:LM}{y:Qz}{xa:LM}{xc:Nat}(h:KnX wz wr kb a n cap R d dc xs)(k:wz.heap.size<=kb)(l:K_ wr W)(m:W.grownBy c (Value.slice d R.length dc).ownBlock)
 (i:c.ownsRow wz.heap.size 40 7 (.slice f (R.length+1) e) (R.length+1) (xs++y.cells xa xc)) (q:Strs wz xa y.texts) (r:xa=none->xc=0):
  KnX wz (c.setCell ⟨kb,1,none⟩ (.slice f (R.length+1) e)) kb a n cap (R++ [y]) f e (xs++y.cells xa xc):=by
 obtain⟨s,b⟩:=h.grown l m;have j:(R++ [y]).length=R.length+1:=by simp
 refine⟨Below.setCell s (p:=⟨kb,1,none⟩) k _,⟨b.row.set _, ?_, ?_⟩, ?_,h.pack.snoc q r (fun _ _=>trivial)⟩
 ·rw[Xx (by omega)];exact b.web
 ·rw[j];exact bG b.row.row (by omega) _
 ·rw[j];exact Ei i (own_ne b.row i) _
theorem uA(W:fQ):∀(bs:List LK) (l:List Qz) (n:LK),fw W l (bs++ [n])=if (W n).isSome=true/\(Qj (fw W l bs) n).isNone=true then fw W l bs++ [Qz.fresh n] else fw W l bs
 | [],_l,_n=>rfl
 | _b :: bs,_l,n=>uA W bs _ n
theorem CV(W:fQ)(l:List Qz){a:List LK}{k:Nat}(h:k<a.length):fw W l (a.take (k+1))=if (W (a.getD k ByteArray.empty)).isSome=true/\(Qj (fw W l (a.take k)) (a.getD k ByteArray.empty)).isNone=true then fw W l (a.take k)++ [Qz.fresh (a.getD k ByteArray.empty)] else fw W l (a.take k):=by
 rw[JX h,uA];simp[List.getD,h]
theorem oF(W:fQ):∀(bs:List LK) (l:List Qz),(fw W l bs).length<=l.length+bs.length
 | [],l=>by simp[fw]
 | b :: bs,l=>by
  have h:=oF W bs (if (W b).isSome=true/\(Qj l b).isNone=true then l++ [Qz.fresh b] else l);show (fw W (if (W b).isSome=true/\(Qj l b).isNone=true then l++ [Qz.fresh b] else l) bs).length<=_
  split at h <;> rename_i hc
  ·rw[Lt hc];simp at h⊢;omega
  ·rw[Lu hc];simp at h⊢;omega
theorem Ak(w:LP)(a:LM)(c:Nat)(l:List Qq)(b:LK)(d:l.length<=1048576)(f:bN w a l)(h:(Q_ l b).isSome=true):
  Calls prog 44 #[.agg #[.slice a l.length c],.string b] w fun e w'=>(∃r:Nat,e= .returned (.int .i64 (r:Int)))/\K_ w w':=by
 refine (gK w a c l b d f).mono ?_;rintro e w' ⟨⟨r,rfl,i⟩,k⟩;rcases i with⟨j,_,rfl,_⟩|⟨_,m⟩
 ·exact⟨⟨j,rfl⟩,k⟩
 ·rw[m] at h;cases h
theorem Fw(w:LP)(a:LM)(c:Nat)(l:List Qq)(b:LK)(f:l.length<=1048576)(i:bN w a l)(h:¬(Q_ l b).isSome=true):
  Calls prog 44 #[.agg #[.slice a l.length c],.string b] w fun e w'=>e= .returned (.int .i64 (-1))/\K_ w w':=by
 refine (gK w a c l b f i).mono ?_;rintro e w' ⟨⟨r,rfl,j⟩,k⟩;rcases j with⟨m,_,rfl,d,_⟩|⟨rfl,d⟩
 ·rw[d] at h;exact Lv rfl h
 ·exact⟨rfl,k⟩
theorem Ga(w:LP)(b:Nat)(a:LM)(n f:Nat)(d:LM)(h:Nat)(l:List Qz)(c:LK)(j:l.length<=1048576)(k:jk w b a n f d l.length h)(m:bD w d l)(i:(Qj l c).isNone=true):
  Calls prog 123 #[.pointer (some ⟨b,0,none⟩),.string c] w fun e w'=>(∃r:Int,e= .returned (.int .i64 r)/\r<0)/\w'=w:=by
 refine (Fg w b a n f d h l c j k m).mono ?_;rintro e w' ⟨⟨r,rfl,p⟩,q⟩;rcases p with⟨t,_,rfl,s,_⟩|⟨rfl,_⟩
 ·rw[s] at i;cases i
 ·exact⟨⟨-1,rfl,by omega⟩,q⟩
theorem F_(w:LP)(b:Nat)(a:LM)(n f:Nat)(d:LM)(h:Nat)(l:List Qz)(c:LK)(j:l.length<=1048576)(k:jk w b a n f d l.length h)(m:bD w d l)(i:¬(Qj l c).isNone=true):
  Calls prog 123 #[.pointer (some ⟨b,0,none⟩),.string c] w fun e w'=>(∃r:Nat,e= .returned (.int .i64 (r:Int)))/\w'=w:=by
 refine (Fg w b a n f d h l c j k m).mono ?_;rintro e w' ⟨⟨r,rfl,p⟩,q⟩;rcases p with⟨s,_,rfl,_⟩|⟨_,t⟩
 ·exact⟨⟨s,rfl⟩,q⟩
 ·rw[t] at i;exact Lv rfl i
theorem Bd(w:LP)(cost j:Int)(a d:LM)(r N:Nat)(l:List Xj)(ans:List Xq)(D:l.length<=maxLen)(E:∀s∈l,s.Fits)(F:Steps w a l)
  (O:ans.length<=maxLen) (_has:∀c∈ans,c.text.size<=maxLen) (_hD:ed w d ans)
  (P:Hid (¬(mM cost l j/\ans.length= (jQ l j).asks.length))):
  Calls prog 80 #[.agg #[.int .i64 cost,.slice a l.length r],.int .i64 j,.slice d ans.length N] w fun e w'=>(∃g,e= .returned (.agg g.cells.toArray)/\lF cost l j ans g)/\K_ w w':=by
 have Q:=D;have R:=O;unfold maxLen at Q R;have t:K_ w ((w.alloc (.cells #[.int .i64 cost,.slice a l.length r] 77)).alloc (.cells #[.int .i64 0,.bool false,.int .i64 0,.string ⟨#[]⟩] 135)):=(ag _ _).alloc _;go_enter func80,ntmps80
 go_wp2_with fail
 refine (eZ _ cost a r l D E (F.kept t)).mono ?_;rintro e w1 ⟨B,k⟩;have p:=t.trans k;have G:Row w1 (w.heap.size+1) 4:=Row.kept (by have:=Row.made (w.alloc (.cells #[.int .i64 cost,.slice a l.length r] 77)) #[.int .i64 0,.bool false,.int .i64 0,.string ⟨#[]⟩] 135;simpa using this) k;have q:=Kz G;clear G;obtain⟨a1,a2⟩:=k.rules;have S:=k.size;simp only[KR] at S;have x0:w.heap.size<w1.heap.size:=by omega
 have x1:w.heap.size+1<w1.heap.size:=by omega
 rcases B.cases with⟨rfl,H⟩|⟨rfl,I⟩
 ·have v:=Kz H;clear H B t k;by_cases T:0<=j
  ·cases J:decide (j<=(l.length:Int)-1)
   ·have U:(l.length:Int)-1<j:=by simpa using J
    go_wp2
    have i:=JU w1 (w.heap.size+1) 0 bW.none.cells (q.o.there (o:=0) (m:=4) (JP _));exact X_ bW.none.cells _ results80 rfl i underlying135 rfl Tryz.dJ rfl ⟨⟨_,rfl,Or.inl ⟨fun h=>(by have:=h.2.1;omega),rfl⟩⟩,K_.setCells (g:=w.heap.size+1) (by omega) bW.none.cells 0 p⟩
   ·have U:j<=(l.length:Int)-1:=by simpa using J
    obtain⟨n,rfl⟩:=Int.eq_ofNat_of_zero_le T;have C:n<l.length:=by omega
    obtain⟨b,o,cs,rfl,hb,f,aa,ca,ac,cc,rfl,V,W,X⟩:=F.kept p n C;have Y:=E (l.getD n Xj.zero) (by simp[List.getD,C]);obtain⟨s,x⟩:=aj (l.getD n Xj.zero);rw[<-x] at f Y V W X;have y:Hid (jQ l n=s):=by rw[x];show Hid (l.getD (n:Int).toNat Xj.zero=_);rw[Int.toNat_natCast];exact rfl
    have a3:Hid (ku s l.length):=by rw[x];exact v.o.2.2 n C
    clear x;have Z:=f 0 _ rfl;have c1:=f 1 _ rfl;have c2:=f 2 _ rfl;have c3:=f 3 _ rfl;have c4:=f 4 _ rfl;have K:=f 5 _ rfl;have c6:=f 6 _ rfl;have c7:=f 7 _ rfl;simp only[La] at Z;clear f;cases A:s.fin
    ·rw[A] at K;have L:Hid (mM cost l n):=⟨v.o,⟨by omega,by omega⟩,by rw[y.o];exact A⟩;have M:ans.length≠s.asks.length:=fun h=>P.out ⟨L.o,by rw[y.o];exact h⟩
     have a4:((ans.length:Int) != (s.asks.length:Int))=true:=by simp;omega
     have a0:=Kz M;clear M;go_wp2
     have i:=JU w1 (w.heap.size+1) 0 bW.none.cells (q.o.there (o:=0) (m:=4) (JP _));exact X_ bW.none.cells _ results80 rfl i underlying135 rfl Tryz.dJ rfl ⟨⟨_,rfl,Or.inr ⟨L.o,Or.inl ⟨fun h=>a0.o (by have:=h.1;rw[y.o] at this;exact this),rfl⟩⟩⟩,K_.setCells (g:=w.heap.size+1) (by omega) bW.none.cells 0 p⟩
    ·rw[A] at K;go_wp2
     have i:=JU w1 (w.heap.size+1) 0 bW.none.cells (q.o.there (o:=0) (m:=4) (JP _));exact X_ bW.none.cells _ results80 rfl i underlying135 rfl Tryz.dJ rfl ⟨⟨_,rfl,Or.inl ⟨fun h=>(by have:=h.2.2;rw[y.o,A] at this;cases this),rfl⟩⟩,K_.setCells (g:=w.heap.size+1) (by omega) bW.none.cells 0 p⟩
  ·skip
   go_wp2
   have i:=JU w1 (w.heap.size+1) 0 bW.none.cells (q.o.there (o:=0) (m:=4) (JP _));exact X_ bW.none.cells _ results80 rfl i underlying135 rfl Tryz.dJ rfl ⟨⟨_,rfl,Or.inl ⟨fun h=>(by have:=h.2.1;omega),rfl⟩⟩,K_.setCells (g:=w.heap.size+1) (by omega) bW.none.cells 0 p⟩
 ·have v:=Kz I;clear I B t k;go_wp2
  have i:=JU w1 (w.heap.size+1) 0 bW.none.cells (q.o.there (o:=0) (m:=4) (JP _));exact X_ bW.none.cells _ results80 rfl i underlying135 rfl Tryz.dJ rfl ⟨⟨_,rfl,Or.inl ⟨fun h=>v.o h.1,rfl⟩⟩,K_.setCells (g:=w.heap.size+1) (by omega) bW.none.cells 0 p⟩
def um(picks:List Int)(i:Nat):Int:=if picks=[] then 0 else if picks.getD (i % picks.length) 0<0 then 0 else picks.getD (i % picks.length) 0
theorem Ba(a:List Int)(i:Nat):0<=um a i:=by
 unfold um
 split
 ·exact Int.le_refl _
 ·split <;> omega
def lK(picks:List Int)(i n:Nat):Nat:=(um picks i).toNat % n
theorem qZ(a:List Int)(i:Nat)(h:0<n):lK a i n<n:=Nat.mod_lt _ h
theorem CK(a:List Int)(i n:Nat):((lK a i n:Nat):Int)=um a i % (n:Int):=by
 have h:=Ba a i;unfold lK;rw[Int.natCast_emod,Int.toNat_of_nonneg h]
inductive Bq (Kq:List Qq) (picks:List Int):List Qz->List LK->List Qz->List LK->Prop
 | stop {T:List Qz} {D:List LK} (h:eB (Q_ Kq) (Qj T) T []):Bq Kq picks T D T D
 | step {T T':List Qz} {D D' ns:List LK} {r:Qz} (h:eB (Q_ Kq) (Qj T) T ns) (hn:0<ns.length) (hr:Qj T (ns.getD (lK picks D.length ns.length) ByteArray.empty)=some r)
   (hw:Bq Kq picks (doL (Q_ Kq) T r) (D++ [ns.getD (lK picks D.length ns.length) ByteArray.empty]) T' D'):Bq Kq picks T D T' D'
theorem CP(x:Option Qz):kV x<=23:=by
 cases x with
 | none=>exact JP _
 | some r=>
  show (if r.over=true then 0 else 22-r.Zj.toNat)<=23
  split <;> omega
theorem sK(σ:Env):∀l:List LK,ek l σ<=23*l.length
 | []=>JR _
 | n :: l=>by
  have h:=sK σ l;have c:=CP (σ n);have e:ek (n :: l) σ=kV (σ n)+ek l σ:=by simp[ek]
  rw[e,KY];omega
theorem EU(a:List Qq)(l:List Qz):lu a l<=23*a.length:=by
 have h:=sK (Qj l) (a.map (·.name));rw[Lm] at h;exact h
structure BF (Kq:List Qq) (picks:List Int) (T0 T:List Qz) (D:List LK):Prop where
 good:dB Kq T
 fits:D.length+lu Kq T<=lu Kq T0
 on:∀T' D',Bq Kq picks T D T' D'->Bq Kq picks T0 [] T' D'
theorem BF.start{c:List Qq}{d:List Int}{T:List Qz}(h:dB c T):BF c d T T []:=⟨h,by simp,fun _ _ h=>h⟩
theorem BF.next{a:List Qq}{c:List Int}{f T:List Qz}{D b:List LK}(h:BF a c f T D)(l:bT (Q_ a))(i:eB (Q_ a) (Qj T) T b)(j:0<b.length):
  ∃r,Qj T (b.getD (lK c D.length b.length) ByteArray.empty)=some r/\bZ (Q_ a) (Qj T) r/\BF a c f (doL (Q_ a) T r) (D++ [b.getD (lK c D.length b.length) ByteArray.empty])/\lu a (doL (Q_ a) T r)<lu a T:=by
 have m:b.getD (lK c D.length b.length) ByteArray.empty∈b:=by
  have k:=qZ c D.length j;simp only[List.getD,JV k,Lx];exact J_ k
 obtain⟨r,d,e⟩:=(i.ready h.good.asc _).1 m;have n:=Di h.good d e;refine⟨r,d,e,⟨qI l h.good (bF d).1 e, ?_,fun p q s=>h.on p q (.step i j d s)⟩,n⟩;have:=h.fits;rw[KS];show D.length+1+_<=_;omega
variable {σ : Env}
section
variable {W : fQ}
def pend(W:fQ)(σ:Env)(r:Qz):List LK:=
 if r.over=true\/r.Zj=0 then [] else
 match W r.name with
 | none=>[]
 | some A=>(stepOf A r.at').asks.filter fun a=>(bP W σ a).isNone
theorem jy :∀{l:List LK},(∃i,Yq W σ l=some i)↔∀a∈l,(bP W σ a).isSome=true
 | []=>⟨fun _ _ h=>(by cases h),fun _=>⟨[],rfl⟩⟩
 | a :: l=>by
  constructor
  ·rintro⟨i,h⟩ b c;unfold Yq at h;cases e:bP W σ a with
   | none=>rw[e] at h;cases h
   | some x=>
    rw[e] at h;simp only at h;cases d:Yq W σ l with
    | none=>rw[d] at h;cases h
    | some f=>
     rcases Lb.1 c with rfl|c
     ·rw[e];rfl
     ·exact jy.1 ⟨f,d⟩ b c
  ·intro h;obtain⟨f,d⟩:=jy.2 (fun b c=>h b (Kl _ c));obtain⟨x,j⟩:=Ko.1 (h a (by simp));exact⟨x :: f,by unfold Yq;rw[j,d]⟩
theorem xK{r:Qz}(n:(W r.name).isSome=true):bZ W σ r↔r.over=false/\pend W σ r=[]:=by
 obtain⟨A,e⟩:=Ko.1 n;unfold bZ pend;constructor
 ·rintro⟨b,a⟩;refine⟨b, ?_⟩;rcases a with a|⟨p,f,m,h⟩
  ·rw[Lt (.inr a)]
  ·by_cases c:r.Zj=0
   ·rw[Lt (.inr c)]
   ·rw[Lu (by rw[b];simp[c]),e];simp only;rw[e] at m;cases m;rw[List.filter_eq_nil_iff];intro d i;have:=jy.1 ⟨f,h⟩ d i;cases j:bP W σ d with
    | none=>rw[j] at this;cases this
    | some x=>simp
 ·rintro⟨b,a⟩;refine⟨b, ?_⟩;by_cases c:r.Zj=0
  ·exact .inl c
  ·right
   rw[Lu (by rw[b];simp[c]),e] at a;simp only at a;rw[List.filter_eq_nil_iff] at a;obtain⟨f,h⟩:=(jy (l:=(stepOf A r.at').asks) (W:=W) (σ:=σ)).2 (fun d i=>by
    have:=a d i;cases j:bP W σ d with
    | none=>rw[j] at this;simp at this
    | some x=>rfl)
   exact⟨A,f,e,h⟩
theorem FY{n:LK}{r:Qz}(b:σ n=some r)(_hc:r.over=false)(a:LK):bP W (doX W σ n) a=if a=n/\(W n).isSome=true then (if (Y_ W σ r).1.over=true then some ⟨(Y_ W σ r).1.fail,(Y_ W σ r).1.text⟩ else none) else bP W σ a:=by
 unfold bP;cases c:W a with
 | none=>
  have:¬(a=n/\(W n).isSome=true):=by rintro⟨rfl,h⟩;rw[c] at h;cases h
  rw[Lu this]
 | some A=>
  simp only;by_cases e:a=n
  ·subst e;rw[Lt ⟨rfl,by rw[c];rfl⟩,lV b]
  ·rw[Lu (by rintro⟨h,_⟩;exact e h),ik b,Lu e];cases d:σ a with
   | some x=>rfl
   | none=>
    simp only
    split
    ·rename_i x hx
     split at hx
     ·cases hx;rfl
     ·cases hx
    ·rfl
theorem Dk{n:LK}{r x:Qz}(d:σ n=some r)(f:r.over=false)(h:(W n).isSome=true):pend W (doX W σ n) x=if (Y_ W σ r).1.over=true then (pend W σ x).filter (fun a=>!decide (a=n)) else pend W σ x:=by
 unfold pend;by_cases b:x.over=true\/x.Zj=0
 ·rw[Lt b,Lt b]
  split <;> rfl
 ·rw[Lu b,Lu b];cases l:W x.name with
  | none=>simp only;split <;> rfl
  | some A=>
   simp only;have j:bP W σ n=none:=by
    unfold bP;obtain⟨B,k⟩:=Ko.1 h;rw[k,d];simp[f]
   by_cases c:(Y_ W σ r).1.over=true
   ·rw[Lt c,List.filter_filter]
    congr 1
    funext a
    rw[FY d f];by_cases e:a=n
    ·rw[Lt ⟨e,h⟩,Lt c];simp[e]
    ·rw[Lu (by rintro⟨i,_⟩;exact e i)];simp[e]
   ·rw[Lu c]
    congr 1
    funext a
    rw[FY d f];by_cases e:a=n
    ·rw[Lt ⟨e,h⟩,Lu c,e,j]
    ·rw[Lu (by rintro⟨i,_⟩;exact e i)]
theorem ma(σ:Env)(n:LK):pend W σ (Qz.fresh n)=[]:=by
 unfold pend;rw[Lt (.inr rfl)]
theorem BJ{r:Qz}(f:bT W){A:fP}(b:W r.name=some A)(m:0<=r.at')(n:r.at' < A.steps.length):(pend W σ r).Nodup:=by
 unfold pend
 split
 ·exact List.nodup_nil
 ·rw[b];simp only;refine List.Pairwise.filter _ ?_;have a:=(f _ _ b).1.2.2 r.at'.toNat (by omega);have e:A.steps.getD r.at'.toNat Xj.zero=stepOf A r.at':=rfl;rw[e] at a;cases c:(stepOf A r.at').fin with
  | true=>
   have:=(a.1 c).1;rw[Kh.1 this];exact List.Pairwise.nil
  | false=>
   have h:=(a.2 c).1.2.2.2.1;rw[Ka];intro i j k d l e;have:=(h j d).2 i l;simp only[List.getD,JV k,JV d,Lx] at this;exact this e
end
section
variable {W : fQ}
def lC(W:fQ)(σ:Env)(n:LK):Nat->Qz×List LK
 | 0=>(Qz.fresh n,[])
 | k+1=>((Y_ W σ (lC W σ n k).1).1,(lC W σ n k).2++ (Y_ W σ (lC W σ n k).1).2)
def xw(W:fQ)(σ:Env)(r:Qz)(L:List LK):Prop:=∃k,lC W σ r.name k= (r,L)/\∀j,j<k->bZ W σ (lC W σ r.name j).1
theorem xw.start{σ:Env}(n:LK):xw W σ (Qz.fresh n) []:=⟨0,rfl,fun _ h=>aT h⟩
theorem xw.unit{σ:Env}{r:Qz}{L:List LK}(h:xw W σ r L)(b:bZ W σ r):xw W σ (Y_ W σ r).1 (L++ (Y_ W σ r).2):=by
 obtain⟨k,a,c⟩:=h;refine⟨k+1, ?_,fun j d=>?_⟩
 ·rw[eG];unfold lC;rw[a]
 ·rw[eG];rcases Nat.lt_or_ge j k with g|g
  ·exact c j g
  ·have:j=k:=by omega
   subst this;rw[a];exact b
theorem oh{σ:Env}{n m:LK}(a:eD W σ m):∀{k:Nat},(∀j,j<k->bZ W σ (lC W σ n j).1)->lC W (doX W σ m) n k=lC W σ n k
 | 0,_=>rfl
 | k+1,h=>by
  have b:=oh (k:=k) a (fun j c=>h j (by omega));have:=nE a (h k (by omega));unfold lC;rw[b,this]
theorem xw.mono{σ:Env}{m:LK}{r:Qz}{L:List LK}(h:xw W σ r L)(a:eD W σ m):xw W (doX W σ m) r L:=by
 obtain⟨k,c,b⟩:=h;refine⟨k,by rw[oh a b];exact c,fun j d=>?_⟩;rw[oh a (fun i e=>b i (by omega))];exact (b j d).mono a
end
section
variable {Kq : List Qq} {Gl σ0 σs σ : Env} {ns : List LK} {i : Nat} {b : Bool}
structure mY (Kq:List Qq) (Gl σ0 σs:Env) (ns:List LK) (σ:Env) (i:Nat) (b:Bool):Prop where
 led:∃k,bO (Behind (W:=Q_ Kq) dz Gl) (doX (Q_ Kq)) σ0 σ k
 no:b=false->σ=σs/\∀j,j<i->¬Behind (W:=Q_ Kq) dz Gl σs (ns.getD j ByteArray.empty)
 yes:b=true->ek (Kq.map (·.name)) σ<ek (Kq.map (·.name)) σs
theorem mY.start(a:∃k,bO (Behind (W:=Q_ Kq) dz Gl) (doX (Q_ Kq)) σ0 σs k):mY Kq Gl σ0 σs ns σs 0 false:=
 ⟨a,fun _=>⟨rfl,fun j b=>aT b⟩,fun h=>by cases h⟩
theorem mY.skip(h:mY Kq Gl σ0 σs ns σ i b)(c:¬Behind (W:=Q_ Kq) dz Gl σ (ns.getD i ByteArray.empty)):mY Kq Gl σ0 σs ns σ (i+1) b:=
 ⟨h.led,fun a=>⟨(h.no a).1,fun j e=>by
  by_cases d:j=i
  ·subst d;rw[<-(h.no a).1];exact c
  ·exact (h.no a).2 j (by omega)⟩,h.yes⟩
theorem mY.did(c:WfX (Q_ Kq) σ)(h:mY Kq Gl σ0 σs ns σ i b){n:LK}(a:Behind (W:=Q_ Kq) dz Gl σ n):mY Kq Gl σ0 σs ns (doX (Q_ Kq) σ n) (i+1) true:=by
 obtain⟨k,e⟩:=h.led;obtain⟨r,f,_⟩:=a.1;have d:=(oK c a.1 (Kq.map (·.name))).2 (qK (c n r f).web);refine⟨⟨k+1,e.snoc a⟩,fun j=>(by cases j),fun _=>?_⟩;cases b with
 | true=>have:=h.yes rfl;omega
 | false=>rw[(h.no rfl).1] at d⊢;exact d
theorem mY.GX(h:mY Kq Gl σ0 σs ns σ ns.length false)(c:∀n r,σs n=some r->n∈ns):AtEnd (Behind (W:=Q_ Kq) dz Gl) σ:=by
 obtain⟨d,e⟩:=h.no rfl;intro n a;rw[d] at a;obtain⟨r,f,_⟩:=a.1;obtain⟨j,b,i⟩:=Kb (c n r f);have:=e j b;simp only[List.getD,JV b,Lx,i] at this;exact this a
end
