import Derived.Test.YtgnkgfjmbmcfcaaGreatDoorKVCirc
import Derived.Test.YtgnkgfjmbmcfcaaGreatDoorKWGo5
import Derived.Deep.AppendLies
set_option maxRecDepth 100000
set_option maxHeartbeats 25600000
namespace Go.Proofs.YtgnkgfjmbmcfcaaGreatDoor
open Go.Proofs.Tryz
def Lb(Kq:List Qz)(r:Q_):Prop:=∃A,Kk Kq r.name=some A/\0<=r.at'/\r.at' < A.steps.length
def a_(W:aZ):Prop:=∀n A,W n=some A->lu A/\oq n
theorem vD :∀{xs:List Xz} {k j:Nat},pW xs k=some j->∃i,j=k+i/\i<xs.length/\iI (xs.getD i Xz.zero)/\mO xs iI i
 | [],_,_,h=>by simp[pW] at h
 | x :: l,k,j,h=>by
  unfold pW at h;by_cases a:x.fail=true
  ·rw[Qg a] at h;cases h;exact⟨0,rfl,by simp,a,fun j b=>aB b⟩
  ·rw[Qh a] at h;obtain⟨i,f,c,d,e⟩:=vD h;refine⟨i+1,by omega,by simpa using c,d,fun j b=>?_⟩;cases j with
   | zero=>exact a
   | succ j=>exact e j (by omega)
theorem vB :∀{xs:List Xz} {k:Nat},pW xs k=none->mO xs iI xs.length
 | [],_,_=>fun j b=>aB b
 | x :: l,k,h=>by
  unfold pW at h;by_cases c:x.fail=true
  ·rw[Qg c] at h;cases h
  ·rw[Qh c] at h;have:=vB h;intro j b;cases j with
   | zero=>exact c
   | succ j=>exact this j (by simpa using b)
theorem uf(t:Qw)(a:Int):∀(l:List aT),(∃i,i<l.length/\(l.getD i aT.zero).text=t/\(∀j,j<i->(l.getD j aT.zero).text≠t)/\pR t a l= (l.getD i aT.zero).goto)\/((∀j,j<l.length->(l.getD j aT.zero).text≠t)/\pR t a l=a)
 | []=>.inr ⟨fun j b=>aB b,rfl⟩
 | c :: l=>by
  by_cases d:c.text=t
  ·exact .inl ⟨0,by simp,d,fun j b=>aB b,by simp[pR,d,List.getD]⟩
  ·have g:pR t a (c :: l)=pR t a l:=by simp[pR,d]
   rw[g];rcases uf t a l with⟨i,e,f,h,k⟩|⟨e,f⟩
   ·refine .inl ⟨i+1,by simpa using e,f,fun j b=>?_,k⟩;cases j with
    | zero=>exact d
    | succ j=>exact h j (by omega)
   ·refine .inr ⟨fun j b=>?_,f⟩;cases j with
    | zero=>exact d
    | succ j=>exact e j (by simpa using b)
variable {xs : List Xz}
theorem lD{s:Xq}(h:yB s xs):Followed s xs (fq s xs):=by
 refine .inr ⟨h, ?_⟩;unfold fq;cases e:pW xs 0 with
 | some j=>
  obtain⟨i,n,f,g,k⟩:=vD e;have:j=i:=by omega
  subst this;refine .inl ⟨j,f,g,k, ?_⟩;by_cases a:s.fall= -1
  ·exact .inl ⟨a,by simp[a]⟩
  ·exact .inr ⟨a,by simp[a]⟩
 | none=>
  refine .inr ⟨vB e,_, ?_,rfl⟩;by_cases b:xs.length=0
  ·rw[Qg b];exact .inl ⟨b,rfl⟩
  ·rw[Qh b];refine .inr ⟨b, ?_⟩;rcases uf (mM xs s.on) s.els s.cases with⟨i,c,d,l,m⟩|⟨c,d⟩
   ·exact .inl ⟨i,c,d,l,m⟩
   ·exact .inr ⟨c,d⟩
theorem mG.OH{cost:Int}{l:List Xq}{a:Int}{ans:List Xz}{g:bW}(h:mG cost l a ans g):(g.code=0->g.over=false->0<=g.at'/\g.at' < l.length)/\(g.over=true->7<=g.text.size):=by
 rcases h with⟨_,rfl⟩|⟨⟨c,⟨w,x⟩,d⟩,h⟩
 ·exact⟨fun e=>by simp[bW.none] at e,fun e=>by simp[bW.none] at e⟩
 ·have f:a.toNat<l.length:=by omega
  have j:lC (ll l a) l.length:=c.2.2 a.toNat f;obtain⟨⟨_,_,_,k,_,b,m,_⟩,n⟩:=j.2 d;rcases h with⟨_,rfl⟩|⟨p,⟨i,q,_,_,⟨_,rfl⟩|⟨y,rfl⟩⟩|⟨_,r,s,rfl⟩⟩
  ·exact⟨fun e=>by simp[bW.none] at e,fun e=>by simp[bW.none] at e⟩
  ·refine⟨fun _ e=>by simp at e,fun _=>?_⟩;have:=(k i (by rw[<-p.1];exact q)).1.1;show 7<=(kK (ll l a) i).size;unfold kK;rw[ByteArray.size_append];show 7<=6+_;omega
  ·exact⟨fun _ _=>⟨by show 0<=(ll l a).fall;omega,m.2⟩,fun e=>by simp at e⟩
  ·refine⟨fun _ _=>?_,fun e=>by simp at e⟩;show 0<=r/\r<l.length;rcases s with⟨_,rfl⟩ | ⟨_,⟨t,v,_,_,rfl⟩ | ⟨_,rfl⟩⟩
   ·exact b
   ·exact (n t v).2
   ·exact b
theorem ES(s:Xq)(a:List Xz):(fq s a).code=0:=by
 unfold fq
 split
 ·split <;> rfl
 ·rfl
structure Q_.Good (Kq:List Qz) (r:Q_):Prop where
 act:Lb Kq r
 lo:0<=r.Zq
 hi:r.Zq<=20
 tl:(r.texts.length:Int)<=5*r.Zq
 ts:∀t∈r.texts,t.size<=200
 tx:r.text.size<=200
 stp:∀A,Kk Kq r.name=some A->r.over=false->r.Zq≠0->(stepOf A r.at').fin=false
def iD(Kq:List Qz)(σ:Env):Prop:=∀n r,σ n=some r->r.name=n/\r.Good Kq
variable {n : Qw}
theorem IY(h:n.size<=20):(yC n).size<=200:=by
 unfold yC;rw[ByteArray.size_append];show 3+n.size<=200;omega
variable {σ : Env} {Kq : List Qz}
theorem w_{x:Xz}(b:iD Kq σ)(c:n.size<=20)(h:bE (Kk Kq) σ n=some x):x.text.size<=200:=by
 unfold bE at h
 split at h
 ·simp only[PN] at h;subst h;exact IY c
 ·split at h
  ·rename_i r hr
   split at h
   ·simp only[PN] at h;subst h;exact (b n r hr).2.tx
   ·cases h
  ·cases h
variable {W : aZ}
theorem pF{p:Xz->Prop}:∀{l:List Qw} {xs:List Xz},(∀n∈l,∀x,bE W σ n=some x->p x)->Yz W σ l=some xs->xs.length=l.length/\∀x∈xs,p x
 | [],xs,_,h=>by
  simp only[Yz,PN] at h;subst h;exact⟨rfl,fun x f=>by cases f⟩
 | a :: l,xs,hp,h=>by
  unfold Yz at h;cases b:bE W σ a with
  | none=>simp[b] at h
  | some x=>
   cases c:Yz W σ l with
   | none=>simp[b,c] at h
   | some ys=>
    simp only[b,c,PN] at h;subst h;obtain⟨g,i⟩:=pF (p:=p) (fun n j=>hp n (Pn _ j)) c;refine⟨by simp[g],fun y d=>?_⟩;rcases PS.1 d with rfl | d
    ·exact hp a (by simp) y b
    ·exact i y d
theorem rG{s:Xq}(b:iD Kq σ)(c:∀n∈s.asks,n.size<=20)(h:Yz (Kk Kq) σ s.asks=some xs):yB s xs/\∀x∈xs,x.text.size<=200:=by
 obtain⟨d,a⟩:=pF (p:=fun x=>x.text.size<=200) (fun n e x f=>w_ b (c n e) f) h;refine⟨⟨d,fun ⟨i,g,j⟩=>?_⟩,a⟩;have:=a (xs.getD i Xz.zero) (by simp[List.getD,g]);unfold p_ at j;omega
theorem jM{A:fA}(e:lu A){i:Int}(g:0<=i)(h:i<A.steps.length):(stepOf A i).asks.length<=5/\∀n∈(stepOf A i).asks,oq n:=by
 have b:lC (stepOf A i) A.steps.length:=e.2.2 i.toNat (by omega);cases c:(stepOf A i).fin with
 | true=>
  have:=(b.1 c).1;refine⟨by omega,fun n a=>?_⟩;rw[Qo this] at a;cases a
 | false=>
  have:=(b.2 c).1;refine⟨this.2.2.1,fun n a=>?_⟩;obtain⟨j,d,f⟩:=Ph a;have:=(this.2.2.2.1 j d).1;simp only[List.getD,OZ d,f,Ql] at this;exact this
theorem BF{s:Xq}{i:Nat}(h:∀n∈s.asks,n.size<=20):(kK s i).size<=200:=by
 unfold kK;rw[ByteArray.size_append];show 6+_<=200;by_cases a:i<s.asks.length
 ·have:=h (s.asks.getD i ByteArray.empty) (by simp[List.getD,a]);omega
 ·have e:s.asks.getD i ByteArray.empty=ByteArray.empty:=by simp[List.getD,a]
  rw[e]
  decide
theorem MG(a:Qw)(l:List Qw):(oO a l).size<=200:=by
 show (mX a.data.toList (texts l)).toArray.size<=200;unfold mX
 split
 ·simp
 ·split
  ·simpa using ‹_›
  ·simp[iO]
theorem xI(a:List Xz):(aJ a).length<=a.length:=by
 unfold aJ;rw[Qc];exact List.length_filter_le _ _
theorem rH{t:Qw}(h:t∈aJ xs):∃x∈xs,x.text=t:=by
 unfold aJ at h;rw[Pv] at h;obtain⟨x,b,e⟩:=h;exact⟨x,(List.mem_filter.1 b).1,e⟩
variable {r : Q_}
theorem vK{A:fA}(a:Kk Kq r.name=some A)(b:0<=r.at')(c:r.at' < A.steps.length)(lo:0<=r.Zq)(hi:r.Zq<20)(d:(r.texts.length:Int)<=5*(r.Zq+1))(ts:∀t∈r.texts,t.size<=200)(e:r.text.size<=200):(gu A r).1.Good Kq:=by
 unfold gu;cases f:(stepOf A r.at').fin with
 | true=>
  simp only[if_true];exact⟨⟨A,a,b,c⟩,by show 0<=r.Zq+1;omega,by show r.Zq+1<=20;omega,d,ts,MG _ _,fun _ _ h=>by simp at h⟩
 | false=>
  simp only[Bool.false_eq_true,if_false];refine⟨⟨A,a,b,c⟩,by show 0<=r.Zq+1;omega,by show r.Zq+1<=20;omega,d,ts,e,fun g i _ _=>?_⟩;have:A=g:=PW (a.symm.trans i);subst this;exact f
theorem fM(x:a_ (Kk Kq))(y:iD Kq σ)(h:r.Good Kq)(i:bL (Kk Kq) σ r):(Xx (Kk Kq) σ r).1.Good Kq:=by
 obtain⟨A,b,d,e⟩:=h.act;have j:=(x _ _ b).1;unfold Xx;rw[b];simp only;by_cases f:r.Zq=0
 ·rw[Qg f];have:=h.tl;exact vK b d e h.lo (by omega) (by omega) h.ts h.tx
 ·rw[Qh f];rcases i.2 with z|⟨Q,a,k,l⟩
  ·exact Qi z f
  ·rw[b] at k;cases k;rw[l];simp only;have R:=h.lo;have S:=h.hi;have T:=h.tl;by_cases m:r.Zq=20
   ·rw[Qg m];exact⟨⟨A,b,d,e⟩,h.lo,h.hi,h.tl,h.ts,by show oV.size<=200;decide,fun _ _ h=>by simp at h⟩
   ·rw[Qh m];obtain⟨B,C⟩:=jM j d e;have p:∀n∈(stepOf A r.at').asks,n.size<=20:=fun n D=>(C n D).2.1
    obtain⟨q,E⟩:=rG y p l;have F:=lD q;have U:mG A.cost A.steps r.at' a (fq (stepOf A r.at') a):= .inr ⟨⟨j,⟨d,e⟩,h.stp A b i.1 f⟩,F⟩;by_cases c:(fq (stepOf A r.at') a).over=true
    ·rw[Qg c];refine⟨⟨A,b,d,e⟩,by show 0<=r.Zq+1;omega,by show r.Zq+1<=20;omega,by show (r.texts.length:Int)<=5*(r.Zq+1);omega,h.ts, ?_,fun _ _ h=>by simp at h⟩;show (fq (stepOf A r.at') a).text.size<=200;unfold fq
     split
     ·split
      ·exact BF p
      ·show (⟨#[]⟩:Qw).size<=200;decide
     ·show (⟨#[]⟩:Qw).size<=200;decide
    ·rw[Qh c];have s:0<=(fq (stepOf A r.at') a).at'/\(fq (stepOf A r.at') a).at' < A.steps.length:=by
      have G:(stepOf A r.at').fin=false:=h.stp A b i.1 f;have H:lC (stepOf A r.at') A.steps.length:=j.2.2 r.at'.toNat (by omega);obtain⟨⟨_,_,_,_,_,t,I,_⟩,J⟩:=H.2 G;unfold fq at c⊢
      split
      ·rename_i v hi'
       rw[hi'] at c;simp only at c;by_cases w:(stepOf A r.at').fall= -1
       ·rw[Qg w] at c;simp at c
       ·rw[Qh w];exact⟨by show 0<=(stepOf A r.at').fall;omega,I.2⟩
      ·show 0<=(if a.length=0 then _ else _)/\(if a.length=0 then _ else _)<_
       split
       ·exact t
       ·rcases uf (mM a (stepOf A r.at').on) (stepOf A r.at').els (stepOf A r.at').cases with⟨v,K,_,_,L⟩|⟨_,M⟩
        ·rw[L];exact (J v K).2
        ·rw[M];exact t
     have V:=xI a;have W:a.length<=5:=by rw[q.1];exact B
     refine vK (r:={r with texts:=r.texts++aJ a,at':=(fq (stepOf A r.at') a).at'}) b s.1 s.2 h.lo (by show r.Zq<20;omega) ?_ (fun N g=>?_) h.tx
     ·show ((r.texts++aJ a).length:Int)<=5*(r.Zq+1);rw[PM]
      push_cast
      omega
     ·rcases Pe.1 g with g|g
      ·exact h.ts N g
      ·obtain⟨O,P,rfl⟩:=rH g;exact E O P
def fC(W:aZ):List Q_->List Qw->List Q_
 | l,[]=>l
 | l,a :: bs=>fC W (if (W a).isSome=true/\(Qq l a).isNone=true then l++ [Q_.fresh a] else l) bs
theorem KQ(l:List Q_)(x:Q_)(m:Qw):Qq (l++ [x]) m=match Qq l m with | some r=>some r | none=>if x.name=m then some x else none:=by
 unfold Qq;rw[List.find?_append];cases h:l.find? fun r=>decide (r.name=m) with
 | some r=>rfl
 | none=>
  by_cases e:x.name=m
  ·simp[e]
  ·simp[e]
theorem um(W:aZ):∀(bs:List Qw) (l:List Q_) (m:Qw),Qq (fC W l bs) m=match Qq l m with | some r=>some r | none=>if fK bs m=true/\(W m).isSome=true then some (Q_.fresh m) else none
 | [],l,m=>by
  show Qq l m=_;cases Qq l m with
  | some r=>rfl
  | none=>simp[fK]
 | a :: bs,l,m=>by
  show Qq (fC W (if (W a).isSome=true/\(Qq l a).isNone=true then l++ [Q_.fresh a] else l) bs) m=_;rw[um W bs];have d:fK (a :: bs) m=true↔a=m\/fK bs m=true:=by simp[fK]
  by_cases e:(W a).isSome=true/\(Qq l a).isNone=true
  ·rw[Qg e,KQ];cases j:Qq l m with
   | some r=>rfl
   | none=>
    simp only;by_cases g:a=m
    ·subst g;have h:(Q_.fresh a).name=a:=rfl;rw[Qg h];simp only;rw[Qg ⟨d.2 (.inl rfl),e.1⟩]
    ·have h:(Q_.fresh a).name≠m:=g;rw[Qh h];simp only;by_cases b:fK bs m=true/\(W m).isSome=true
     ·rw[Qg b,Qg ⟨d.2 (.inr b.1),b.2⟩]
     ·rw[Qh b,Qh];rintro⟨i,f⟩;rcases d.1 i with c|c
      ·exact g c
      ·exact b ⟨c,f⟩
  ·rw[Qh e];cases j:Qq l m with
   | some r=>rfl
   | none=>
    simp only;by_cases b:fK bs m=true/\(W m).isSome=true
    ·rw[Qg b,Qg ⟨d.2 (.inr b.1),b.2⟩]
    ·rw[Qh b,Qh];rintro⟨i,f⟩;rcases d.1 i with c|c
     ·subst c;exact e ⟨f,by rw[j];rfl⟩
     ·exact b ⟨c,f⟩
theorem lG(W:aZ):∀(bs:List Qw) (l:List Q_),(∀x∈l,∀y∈l,x.name=y.name->x=y)->∀x∈fC W l bs,∀y∈fC W l bs,x.name=y.name->x=y
 | [],_,h=>h
 | a :: bs,l,h=>by
  show∀x∈fC W (if (W a).isSome=true/\(Qq l a).isNone=true then l++ [Q_.fresh a] else l) bs,∀y∈fC W (if (W a).isSome=true/\(Qq l a).isNone=true then l++ [Q_.fresh a] else l) bs,_;refine lG W bs _ ?_;by_cases d:(W a).isSome=true/\(Qq l a).isNone=true
  ·rw[Qg d];have f:∀x∈l,x.name≠a:=fun x b e=>by
    have:=(wN h).2 ⟨b,e⟩;rw[this] at d;simp at d
   intro x b y c e;rcases Pe.1 b with b | b <;> rcases Pe.1 c with c | c
   ·exact h x b y c e
   ·rw[Pd] at c;subst c;exact Qi e (f x b)
   ·rw[Pd] at b;subst b;exact Qi e.symm (f y c)
   ·rw[Pd] at b c;rw[b,c]
  ·rw[Qh d];exact h
def doL(W:aZ)(l:List Q_)(r:Q_):List Q_:=(fC W (dI l (Xx W (Qq l) r).1) (Xx W (Qq l) r).2).foldl dI []
variable {l : List Q_}
theorem Bn(h:dB l):dB (doL W l r):=(ny _ [] List.Pairwise.nil (lG W _ _ (sM (qa h)))).1
theorem jJ(h:dB l)(a:Qq l n=some r):Qq (doL W l r)=doX W (Qq l) n:=by
 funext m
 have c:r.name=n:=(bN a).2;have d:(Xx W (Qq l) r).1.name=n:=by rw[fe];exact c
 unfold doL;rw[(ny _ [] List.Pairwise.nil (lG W _ _ (sM (qa h)))).2 m,um,yx h,jw a,d];by_cases e:m=n
 ·rw[Qg e,Qg e]
 ·rw[Qh e,Qh e];cases f:Qq l m with
  | some x=>rfl
  | none=>
   simp only;by_cases b:fK (Xx W (Qq l) r).2 m=true/\(W m).isSome=true
   ·rw[Qg b]
   ·rw[Qh b]
    rfl
structure dU (Kq:List Qz) (l:List Q_):Prop where
 asc:dB l
 good:∀r∈l,r.Good Kq
theorem dU.env(h:dU Kq l):iD Kq (Qq l):=fun _n r a=>⟨(bN a).2,h.good r (bN a).1⟩
theorem lM(e:a_ (Kk Kq)){a:Qw}(h:(Kk Kq a).isSome=true):(Q_.fresh a).Good Kq:=by
 obtain⟨A,d⟩:=Ps.1 h;have g:=(e a A d).1.2.1.1;exact⟨⟨A,d,Int.le_refl _,by show (0:Int)<A.steps.length;omega⟩,Int.le_refl _,by show (0:Int)<=20;omega,by show ((([]:List Qw).length:Nat):Int)<=5*0;simp,fun t f=>(by cases f),by show (⟨#[]⟩:Qw).size<=200;decide,fun _ _ _ h=>Qi rfl h⟩
theorem Lr(c:a_ (Kk Kq))(h:dU Kq l)(d:r∈l)(g:bL (Kk Kq) (Qq l) r):dU Kq (doL (Kk Kq) l r):=by
 refine⟨Bn h.asc,fun x i=>?_⟩;have e:=bU h.asc d;have a:=bU (Bn (W:=Kk Kq) (r:=r) h.asc) i;rw[jJ h.asc e,jw e] at a;by_cases f:x.name=r.name
 ·rw[Qg f] at a;cases a;exact fM c h.env (h.good r d) g
 ·rw[Qh f] at a;cases b:Qq l x.name with
  | some y=>
   rw[b] at a;cases a;exact h.good x (bN b).1
  | none=>
   rw[b] at a;simp only at a
   split at a
   ·rename_i hc2
    have j:Q_.fresh x.name=x:=PW a;rw[<-j];exact lM c hc2.2
   ·cases a
inductive iJ (W:aZ) (σ:Env):List Q_->List Qw->Prop
 | nil:iJ W σ [] []
 | yes {l:List Q_} {ns:List Qw} {r:Q_} (h:iJ W σ l ns) (hr:bL W σ r):iJ W σ (l++ [r]) (ns++ [r.name])
 | no {l:List Q_} {ns:List Qw} {r:Q_} (h:iJ W σ l ns) (hr:¬bL W σ r):iJ W σ (l++ [r]) ns
variable {ns : List Qw}
theorem iJ.mem(h:iJ W σ l ns)(n:Qw):n∈ns↔∃r∈l,r.name=n/\bL W σ r:=by
 induction h with
 | nil=>simp
 | yes h hr ih=>
  rename_i l ns r
  rw[Pe,ih,Pd];constructor
  ·rintro (⟨x,a,b⟩|rfl)
   ·exact⟨x,Pe.2 (.inl a),b⟩
   ·exact⟨r,Pe.2 (.inr (by simp)),rfl,hr⟩
  ·rintro⟨x,a,b,d⟩;rcases Pe.1 a with a|a
   ·exact .inl ⟨x,a,b,d⟩
   ·rw[Pd] at a;subst a;exact .inr b.symm
 | no h hr ih=>
  rename_i l ns r
  rw[ih];constructor
  ·rintro⟨x,a,b⟩;exact⟨x,Pe.2 (.inl a),b⟩
  ·rintro⟨x,a,b,d⟩;rcases Pe.1 a with a|a
   ·exact⟨x,a,b,d⟩
   ·rw[Pd] at a;subst a;exact Qi d hr
theorem iJ.ready(h:iJ W (Qq l) l ns)(e:dB l)(n:Qw):n∈ns↔bD W (Qq l) n:=by
 rw[h.mem];constructor
 ·rintro⟨r,b,rfl,c⟩;exact⟨r,bU e b,c⟩
 ·rintro⟨r,b,f⟩;obtain⟨c,g⟩:=bN b;exact⟨r,c,g,f⟩
theorem iJ.len(h:iJ W σ l ns):ns.length<=l.length:=by
 induction h with
 | nil=>exact OU _
 | yes _ _ ih=>simp only[PM,Qr];omega
 | no _ _ ih=>simp only[PM,Qr];omega
def bY(Kq:List Qz)(Kj:List Qw):List Q_:=(fC (Kk Kq) [] Kj).foldl dI []
theorem xG(Kq:List Qz)(a:List Qw):dB (bY Kq a):=(ny _ [] List.Pairwise.nil (lG (Kk Kq) a [] (fun _ h=>by cases h))).1
theorem lw(Kq:List Qz)(b:List Qw)(n:Qw):Qq (bY Kq b) n=if fK b n=true/\(Kk Kq n).isSome=true then some (Q_.fresh n) else none:=by
 unfold bY;rw[(ny _ [] List.Pairwise.nil (lG (Kk Kq) b [] (fun _ h=>by cases h))).2 n,um];show (match (if fK b n=true/\(Kk Kq n).isSome=true then some (Q_.fresh n) else none) with | some r=>some r | none=>Qq [] n)=_
 split
 ·rename_i r h;rw[h]
 ·rename_i h;rw[h];rfl
theorem oP(d:a_ (Kk Kq))(b:List Qw):dU Kq (bY Kq b):=by
 refine⟨xG Kq b,fun r e=>?_⟩;have a:=bU (xG Kq b) e;rw[lw] at a
 split at a
 ·rename_i h2
  have f:Q_.fresh r.name=r:=PW a;rw[<-f];exact lM d h2.2
 ·cases a
theorem dU.wf(h:dU Kq l):WfX (Kk Kq) (Qq l):=fun n r e=>by
 obtain⟨f,b⟩:=bN e;have a:=h.good r f;obtain⟨A,g,_⟩:=a.act;exact⟨b,by rw[<-b,g];rfl,a.lo,a.hi⟩
theorem wI(h:(Kk Kq n).isSome=true):n∈Kq.map (·.name):=by
 obtain⟨A,c⟩:=Ps.1 h;obtain⟨k,a,e,_⟩:=gm c;rw[Pv];refine⟨Kq.getD k Qz.zero, ?_,e⟩;simp only[List.getD,OZ a,Ql];exact Pf a
def mE(Kq:List Qz)(l:List Q_):Nat:=eT (Kq.map (·.name)) (Qq l)
theorem MM(h:dU Kq l)(b:Qq l n=some r)(c:bL (Kk Kq) (Qq l) r):mE Kq (doL (Kk Kq) l r)<mE Kq l:=by
 unfold mE;rw[jJ h.asc b];exact (ul h.wf ⟨r,b,c⟩ _).2 (wI (h.wf n r b).web)
theorem Ap(h:dB l):(l.map (·.name)).Nodup:=by
 rw[List.Nodup,List.pairwise_map];exact h.imp fun b=>fE b
theorem dU.len(h:dU Kq l):l.length<=Kq.length:=by
 have c:=List.Nodup.length_le_of_subset (Ap h.asc) (l₂:=Kq.map (·.name)) (fun n d=>by
  obtain⟨r,e,rfl⟩:=Pv.1 d;exact wI (h.wf r.name r (bU h.asc e)).web)
 simpa using c
def Oy(Kq:List Qz)(Kj:List Qw)(sl:List Q_):Prop:=
 ∃k L,dU Kq L/\gW (Behind (W:=Kk Kq) wm (Qq sl)) (doX (Kk Kq)) (Qq (bY Kq Kj)) (Qq L) k/\AtEnd (Behind (W:=Kk Kq) wm (Qq sl)) (Qq L)/\L=sl
section
variable {W : aZ}
def pend(W:aZ)(σ:Env)(r:Q_):List Qw:=
 if r.over=true\/r.Zq=0 then [] else
 match W r.name with
 | none=>[]
 | some A=>(stepOf A r.at').asks.filter fun a=>(bE W σ a).isNone
theorem kN :∀{l:List Qw},(∃g,Yz W σ l=some g)↔∀a∈l,(bE W σ a).isSome=true
 | []=>⟨fun _ _ h=>(by cases h),fun _=>⟨[],rfl⟩⟩
 | a :: l=>by
  constructor
  ·rintro⟨g,h⟩ b c;unfold Yz at h;cases e:bE W σ a with
   | none=>rw[e] at h;cases h
   | some x=>
    rw[e] at h;simp only at h;cases d:Yz W σ l with
    | none=>rw[d] at h;cases h
    | some f=>
     rcases PS.1 c with rfl|c
     ·rw[e];rfl
     ·exact kN.1 ⟨f,d⟩ b c
  ·intro h;obtain⟨f,d⟩:=kN.2 (fun b c=>h b (Pn _ c));obtain⟨x,i⟩:=Ps.1 (h a (by simp));exact⟨x :: f,by unfold Yz;rw[i,d]⟩
theorem AC(m:(W r.name).isSome=true):bL W σ r↔r.over=false/\pend W σ r=[]:=by
 obtain⟨A,e⟩:=Ps.1 m;unfold bL pend;constructor
 ·rintro⟨b,a⟩;refine⟨b, ?_⟩;rcases a with a|⟨n,f,k,g⟩
  ·rw[Qg (.inr a)]
  ·by_cases c:r.Zq=0
   ·rw[Qg (.inr c)]
   ·rw[Qh (by rw[b];simp[c]),e];simp only;rw[e] at k;cases k;rw[List.filter_eq_nil_iff];intro d h;have:=kN.1 ⟨f,g⟩ d h;cases i:bE W σ d with
    | none=>rw[i] at this;cases this
    | some x=>simp
 ·rintro⟨b,a⟩;refine⟨b, ?_⟩;by_cases c:r.Zq=0
  ·exact .inl c
  ·right
   rw[Qh (by rw[b];simp[c]),e] at a;simp only at a;rw[List.filter_eq_nil_iff] at a;obtain⟨f,g⟩:=(kN (l:=(stepOf A r.at').asks) (W:=W) (σ:=σ)).2 (fun d h=>by
    have:=a d h;cases i:bE W σ d with
    | none=>rw[i] at this;simp at this
    | some x=>rfl)
   exact⟨A,f,e,g⟩
theorem JV(b:σ n=some r)(_hc:r.over=false)(a:Qw):bE W (doX W σ n) a=if a=n/\(W n).isSome=true then (if (Xx W σ r).1.over=true then some ⟨(Xx W σ r).1.fail,(Xx W σ r).1.text⟩ else none) else bE W σ a:=by
 unfold bE;cases c:W a with
 | none=>
  have:¬(a=n/\(W n).isSome=true):=by rintro⟨rfl,h⟩;rw[c] at h;cases h
  rw[Qh this]
 | some A=>
  simp only;by_cases e:a=n
  ·subst e;rw[Qg ⟨rfl,by rw[c];rfl⟩,mZ b]
  ·rw[Qh (by rintro⟨h,_⟩;exact e h),jw b,Qh e];cases d:σ a with
   | some x=>rfl
   | none=>
    simp only
    split
    ·rename_i x hx
     split at hx
     ·cases hx;rfl
     ·cases hx
    ·rfl
theorem Hr{x:Q_}(d:σ n=some r)(f:r.over=false)(g:(W n).isSome=true):pend W (doX W σ n) x=if (Xx W σ r).1.over=true then (pend W σ x).filter (fun a=>!decide (a=n)) else pend W σ x:=by
 unfold pend;by_cases b:x.over=true\/x.Zq=0
 ·rw[Qg b,Qg b]
  split <;> rfl
 ·rw[Qh b,Qh b];cases k:W x.name with
  | none=>simp only;split <;> rfl
  | some A=>
   simp only;have i:bE W σ n=none:=by
    unfold bE;obtain⟨B,j⟩:=Ps.1 g;rw[j,d];simp[f]
   by_cases c:(Xx W σ r).1.over=true
   ·rw[Qg c,List.filter_filter]
    congr 1
    funext a
    rw[JV d f];by_cases e:a=n
    ·rw[Qg ⟨e,g⟩,Qg c];simp[e]
    ·rw[Qh (by rintro⟨h,_⟩;exact e h)];simp[e]
   ·rw[Qh c]
    congr 1
    funext a
    rw[JV d f];by_cases e:a=n
    ·rw[Qg ⟨e,g⟩,Qh c,e,i]
    ·rw[Qh (by rintro⟨h,_⟩;exact e h)]
theorem nX(σ:Env)(n:Qw):pend W σ (Q_.fresh n)=[]:=by
 unfold pend;rw[Qg (.inr rfl)]
theorem Fg(f:a_ W){A:fA}(b:W r.name=some A)(l:0<=r.at')(m:r.at' < A.steps.length):(pend W σ r).Nodup:=by
 unfold pend
 split
 ·exact List.nodup_nil
 ·rw[b];simp only;refine List.Pairwise.filter _ ?_;have a:=(f _ _ b).1.2.2 r.at'.toNat (by omega);have e:A.steps.getD r.at'.toNat Xq.zero=stepOf A r.at':=rfl;rw[e] at a;cases c:(stepOf A r.at').fin with
  | true=>
   have:=(a.1 c).1;rw[Pk.1 this];exact List.Pairwise.nil
  | false=>
   have g:=(a.2 c).1.2.2.2.1;rw[Pg];intro i j h d k e;have:=(g j d).2 i k;simp only[List.getD,OZ h,OZ d,Ql] at this;exact this e
end
section
variable {W : aZ}
def mU(W:aZ)(σ:Env)(n:Qw):Nat->Q_×List Qw
 | 0=>(Q_.fresh n,[])
 | k+1=>((Xx W σ (mU W σ n k).1).1,(mU W σ n k).2++ (Xx W σ (mU W σ n k).1).2)
def zT(W:aZ)(σ:Env)(r:Q_)(L:List Qw):Prop:=∃k,mU W σ r.name k= (r,L)/\∀j,j<k->bL W σ (mU W σ r.name j).1
theorem zT.start{σ:Env}(n:Qw):zT W σ (Q_.fresh n) []:=⟨0,rfl,fun _ h=>aB h⟩
theorem zT.unit{σ:Env}{r:Q_}{L:List Qw}(h:zT W σ r L)(b:bL W σ r):zT W σ (Xx W σ r).1 (L++ (Xx W σ r).2):=by
 obtain⟨k,a,c⟩:=h;refine⟨k+1, ?_,fun j d=>?_⟩
 ·rw[fe];unfold mU;rw[a]
 ·rw[fe];rcases Nat.lt_or_ge j k with g|g
  ·exact c j g
  ·have:j=k:=by omega
   subst this;rw[a];exact b
theorem oW{σ:Env}{n m:Qw}(a:bD W σ m):∀{k:Nat},(∀j,j<k->bL W σ (mU W σ n j).1)->mU W (doX W σ m) n k=mU W σ n k
 | 0,_=>rfl
 | k+1,h=>by
  have b:=oW (k:=k) a (fun j c=>h j (by omega));have:=Em a (h k (by omega));unfold mU;rw[b,this]
theorem zT.mono{σ:Env}{m:Qw}{r:Q_}{L:List Qw}(h:zT W σ r L)(a:bD W σ m):zT W (doX W σ m) r L:=by
 obtain⟨k,c,b⟩:=h;refine⟨k,by rw[oW a b];exact c,fun j d=>?_⟩;rw[oW a (fun i e=>b i (by omega))];exact (b j d).mono a
end
open Go.RowKit
theorem aN{P:Program}{e:TypeId}{z:QA}{size c:Nat}(h:(P.info? e).map (fun i=>(i.zero,i.size,i.bytes))=some (some z,size,c)):∃i,P.info? e=some i/\i.zero=some z/\i.size=size/\i.bytes=c:=by
 obtain⟨i,f,a⟩:=Option.map_eq_some_iff.1 h;simp only[Prod.mk.injEq] at a;exact⟨i,f,a.1,a.2.1,a.2.2⟩
theorem oU{W:aZ}{σ:Env}{a:Qw}{x:Xz}:∀{l:List Qw} {xs:List Xz},Yz W σ l=some xs->bE W σ a=some x->Yz W σ (l++ [a])=some (xs++ [x])
 | [],xs,h,hx=>by
  simp only[Yz,PN] at h;subst h;simp[Yz,hx]
 | b :: l,xs,h,hx=>by
  unfold Yz at h;cases c:bE W σ b with
  | none=>simp[c] at h
  | some y=>
   cases d:Yz W σ l with
   | none=>simp[c,d] at h
   | some ys=>
    simp only[c,d,PN] at h;subst h;show Yz W σ (b :: (l++ [a]))=_;unfold Yz;rw[c,oU d hx]
    rfl
theorem pQ{W:aZ}{σ:Env}{a:Qw}(d:bE W σ a=none):∀{l:List Qw},a∈l->Yz W σ l=none
 | b :: l,h=>by
  unfold Yz;rcases PS.1 h with rfl|h
  ·rw[d]
  ·cases e:bE W σ b with
   | none=>rfl
   | some y=>simp only[pQ d h]
def KL(Kq:List Qz)(l:List Q_)(asks:List Qw)(w':Qy)(e:Ending):Prop:=
 ∃(d:Qx) (n c:Nat) (ok:Bool),e= .returned (.tuple #[.slice d n c,.bool ok])/\(ok=true->∃xs,Yz (Kk Kq) (Qq l) asks=some xs/\n=xs.length/\eP w' d xs)/\(ok=false->Yz (Kk Kq) (Qq l) asks=none)
theorem uX(w:Qy)(z:Nat)(a:Qx)(cap:Nat)(Kq:List Qz)(d:Qx)(dc:Nat)(l:List Q_)(s:Xq)(k A:Qx)(ca cc:Nat)(a0:Kq.length<=1048576)(a1:l.length<=1048576)(b7:s.asks.length<=1000)(a2:∀x∈s.asks,x.size<=1000)
  (K:jE w z a Kq.length cap d l.length dc) (L:bJ w a Kq) (M:gD w d l) (N:Strs w k s.asks):
  Calls prog 141 #[.pointer (some ⟨z,0,none⟩),.agg #[.slice k s.asks.length ca,.int .i64 s.on,.slice A s.cases.length cc,.int .i64 s.els,.int .i64 s.fall,.bool s.fin,.bool s.bad,.string s.give]] w fun e w'=>KL Kq l s.asks w' e/\K_ w w':=by
 have j:K_ w (w.alloc (.cells #[.slice k s.asks.length ca,.int .i64 s.on,.slice A s.cases.length cc,.int .i64 s.els,.int .i64 s.fall,.bool s.fin,.bool s.bad,.string s.give] 172)):=ak _ _;obtain⟨b,m⟩:=ag (w.alloc (.cells #[.slice k s.asks.length ca,.int .i64 s.on,.slice A s.cases.length cc,.int .i64 s.els,.int .i64 s.fall,.bool s.fin,.bool s.bad,.string s.give] 172));have q0:b.cell? ⟨w.heap.size,0,none⟩=some (.slice k s.asks.length ca):=by rw[m];exact X_ w _ _ 0 _ rfl
 have O:w.heap.size<b.heap.size:=by rw[m];simp
 rw[<-m] at j;have P:K_ b (b.alloc (.cells #[] 112)):=ak _ _;have Q:Hid ((b.alloc (.cells #[] 112)).ownsRow b.heap.size 112 2 (.slice (some ⟨b.heap.size,0,none⟩) 0 0) 0 (dx [])):=Pz b #[] 0 (OU _) (OW _) rfl;have a3:=Kz (N.kept j);have a4:=Kz (L.kept j);have a5:=Kz (M.kept j);have a6:=Kz (K.kept j);have R:=Kz j;clear N L M K j;go_enter func141,ntmps141
 go_upto_region 1 with fail
 rw[<-m];clear m;go_wp2
 go_loopg [6,7] s.asks.length (fun gg x6 x7 wr=>∃(i:Nat) (c:List Xz),x7= .int .i64 (i:Int)/\i+gg=s.asks.length/\c.length=i/\Hid (Yz (Kk Kq) (Qq l) (s.asks.take i)=some c)/\K_ b wr/\Hid (wr.ownsRow b.heap.size 112 2 x6 c.length (dx c)))
 case atStart=>exact⟨0,[],rfl,by omega,rfl,Kz rfl,P,Q⟩
 case round=>
  clear Q P;obtain⟨i,c,rfl,hi,B,S,h,C⟩:=hrel;have T:=Kz B;clear B;obtain⟨D,E,rfl⟩:=aG C.o;have b8:=(h.cell O).trans q0;have cz:w.heap.size<wr.heap.size:=OV O h.size;by_cases b9:(i:Int)<(s.asks.length:Int)
  ·have n:i<s.asks.length:=by omega
   obtain⟨sb,so,rfl,a7,U⟩:=(a3.o.kept h) i n;obtain⟨F,q⟩:=ag (s.asks.getD i ByteArray.empty);rw[<-q] at U;have a8:F.size<=1000:=by rw[q];exact a2 _ (by simp[List.getD,n])
   have V:=Kz q;clear q;go_wp2_with fail
   refine (Fs wr z a cap Kq d dc l F a0 a1 a8 (a6.o.kept h) (a4.o.kept h) (a5.o.kept h)).mono ?_;rintro e g ⟨⟨f,t,ok,rfl,W⟩,p⟩;have G:=Kz W;clear W U a7;have H:K_ g (g.alloc (.cells #[.bool f,.string t] 112)):=ak _ _;cases ok
   ·go_wp2
    go_ret2
    refine⟨⟨D,_,E,false,rfl,(fun I=>(by cases I)),fun _=>pQ (a:=F) (by simpa using G.o) (by rw[V.o];simp[List.getD,n])⟩,R.o.trans (h.trans (p.trans H))⟩
   ·have r:K_ g ((g.alloc (.cells #[.bool f,.string t] 112)).alloc (.cells #[.bool f,.string t] 112)):=H.alloc _;have r0:=X_ g #[.bool f,.string t] 112 0 _ rfl;have r1:=X_ g #[.bool f,.string t] 112 1 _ rfl;simp only[PD] at r0 r1;have X:=Kz (ai C.o (p.trans r));have a9:b.heap.size<=((g.alloc (.cells #[.bool f,.string t] 112)).alloc (.cells #[.bool f,.string t] 112)).heap.size:=(h.trans (p.trans r)).size;have b0:Hid (∀v u,([.bool f,.string t]:List QA)[v]? =some u->((g.alloc (.cells #[.bool f,.string t] 112)).alloc (.cells #[.bool f,.string t] 112)).cell? ((⟨g.heap.size+1,0,none⟩:Addr).add v)=some u):=fun v u y=>by have:=X_ (g.alloc (.cells #[.bool f,.string t] 112)) #[.bool f,.string t] 112 v u y;rw[PL] at this;rw[PQ];exact this
    have b1:Hid (∀u∈([.bool f,.string t]:List QA),u.oneCell'=true):=fun u y=>by simp only[PS,PT,or_false] at y;rcases y with rfl | rfl <;> rfl
    have KK:=Kz (h.trans (p.trans r));have B:c.length<=1000:=by have:=T.o;omega
    obtain⟨ic,b2,b3,b4,b5⟩:=aN Tryz.EH;clear p H r;go_wp2_with (at_builtin;refine wpList_append_own _ rfl (.tmp 31) (.tmp 33) 216 rfl b.heap.size 112 ic _ 2 24 underlying216 b2 b3 b4 b5 rfl (by decide) (.slice D c.length E) c.length (dx c) rfl X.o ⟨g.heap.size+1,0,none⟩ 1 1 [.bool f,.string t] rfl rfl b0.o b1.o (by unfold maxLen;omega) (by omega) a9 ?_;intro v' w6 J Y _;have KP:=aC KK.out (OU _) X.o Y;have HP:=Kz J;obtain⟨c0,c1,rfl⟩:=aG J;clear J Y)
    go_roundg (gk-1)
    case measure=>omega
    case rel=>exact⟨i+1,c++ [⟨f,t⟩],by go_num,by omega,by rw[PM,T.o];rfl,Kz (by rw[Pb n];exact oU S.o (by rw[V.o] at G;simpa[List.getD,n] using G.o)),KP,Kz (by rw[pG,PM];exact HP.o)⟩
  ·have b6:i=s.asks.length:=by omega
   go_wp2
   go_ret2
   refine⟨⟨D,_,E,true,rfl,fun _=>⟨c, ?_,rfl, ?_⟩,(fun I=>(by cases I))⟩,R.o.trans h⟩
   ·have:=S.o;rw[b6,PE] at this;exact this
   ·obtain⟨c2,c3,Z,_,hT⟩:=jY C.o;simp only[PO,true_and] at Z;obtain⟨rfl,_⟩:=Z;exact hT.answers
def Ot(w w':Qy)(a:Qx)(n cap:Nat)(d:Qx)(m dc:Nat)(e:Ending):Prop:=∃kb,e= .returned (.pointer (some ⟨kb,0,none⟩))/\jE w' kb a n cap d m dc/\K_ w w'
theorem pg(w:Qy)(a:Qx)(n cap:Nat)(b:Qx)(c rc:Nat)(d:Qx)(m dc:Nat):
  Calls prog 56 #[.agg #[.slice a n cap],.agg #[.slice b c rc,.slice d m dc]] w fun e w'=>Ot w w' a n cap d m dc e:=by
 go_enter func56,ntmps56
 go_wp2
 go_ret
 have h:=aL.made ((w.alloc (.cells #[.slice a n cap] 37)).alloc (.cells #[.slice b c rc,.slice d m dc] 53)) #[.slice a n cap,.slice d m dc] 94;have f:=X_ ((w.alloc (.cells #[.slice a n cap] 37)).alloc (.cells #[.slice b c rc,.slice d m dc] 53)) #[.slice a n cap,.slice d m dc] 94 0 _ rfl;have g:=X_ ((w.alloc (.cells #[.slice a n cap] 37)).alloc (.cells #[.slice b c rc,.slice d m dc] 53)) #[.slice a n cap,.slice d m dc] 94 1 _ rfl;simp only[PL,PD] at h f g;exact⟨_,rfl,⟨h,f,g⟩,((ak w _).alloc _).alloc _⟩
def kY(Kq:List Qz):Prop:=∀y∈Kq,∀s∈y.steps,s.asks.length<=1000/\∀x∈s.asks,x.size<=1000
theorem Au(w:Qy)(a:Qx)(cap:Nat)(Kq:List Qz)(h:Qx)(i rc:Nat)(d:Qx)(dc:Nat)(l:List Q_)(r:Q_)(xa:Qx)(xc:Nat)(T:Kq.length<=1048576)(a7:l.length<=1048576)(U:kY Kq)
  (a8:r.over=false->r.Zq≠0->Lb Kq r) (V:bJ w a Kq) (hS:gD w d l):
  Calls prog 101 #[.agg #[.slice a Kq.length cap],.agg #[.slice h i rc,.slice d l.length dc],.agg #[.string r.name,.bool r.over,.bool r.fail,.string r.text,.int .i64 r.at',.int .i64 r.Zq,.slice xa r.texts.length xc]] w fun e w'=>Says e (bL (Kk Kq) (Qq l) r)/\K_ w w':=by
 obtain⟨c,n⟩:=ag (((w.alloc (.cells #[.slice a Kq.length cap] 37)).alloc (.cells #[.slice h i rc,.slice d l.length dc] 53)).alloc (.cells #[.string r.name,.bool r.over,.bool r.fail,.string r.text,.int .i64 r.at',.int .i64 r.Zq,.slice xa r.texts.length xc] 103));have W:K_ w c:=by rw[n];exact ((ak _ _).alloc _).alloc _
 have X:c.heap.size=w.heap.size+3:=by rw[n];simp
 have Y:c.cell? ⟨w.heap.size,0,none⟩=some (.slice a Kq.length cap):=by rw[n,K_.cell (w:=w.alloc (.cells #[.slice a Kq.length cap] 37)) ((ak _ _).alloc _) (by simp)];exact X_ w _ _ 0 _ rfl
 have Z:c.cell? ⟨w.heap.size+1,0,none⟩=some (.slice h i rc):=by have:=X_ (w.alloc (.cells #[.slice a Kq.length cap] 37)) #[.slice h i rc,.slice d l.length dc] 53 0 _ rfl;rw[PL] at this;rw[n,K_.cell (w:=(w.alloc (.cells #[.slice a Kq.length cap] 37)).alloc (.cells #[.slice h i rc,.slice d l.length dc] 53)) (ak _ _) (by simp)];exact this
 have s1:c.cell? ⟨w.heap.size+1,1,none⟩=some (.slice d l.length dc):=by have:=X_ (w.alloc (.cells #[.slice a Kq.length cap] 37)) #[.slice h i rc,.slice d l.length dc] 53 1 _ rfl;rw[PL] at this;rw[n,K_.cell (w:=(w.alloc (.cells #[.slice a Kq.length cap] 37)).alloc (.cells #[.slice h i rc,.slice d l.length dc] 53)) (ak _ _) (by simp)];exact this
 have z:∀D E,(#[.string r.name,.bool r.over,.bool r.fail,.string r.text,.int .i64 r.at',.int .i64 r.Zq,.slice xa r.texts.length xc]:Array QA).toList[D]? =some E->c.cell? ⟨w.heap.size+2,D,none⟩=some E:=fun D E p=>by have:=X_ ((w.alloc (.cells #[.slice a Kq.length cap] 37)).alloc (.cells #[.slice h i rc,.slice d l.length dc] 53)) #[.string r.name,.bool r.over,.bool r.fail,.string r.text,.int .i64 r.at',.int .i64 r.Zq,.slice xa r.texts.length xc] 103 D E p;rw[PL,PL,PD] at this;rw[n];exact this
 have r0:=z 0 _ rfl;have H:=z 1 _ rfl;have r4:=z 4 _ rfl;have r5:=z 5 _ rfl;have z0:w.heap.size<c.heap.size:=by omega
 have z1:w.heap.size+1<c.heap.size:=by omega
 have z2:w.heap.size+2<c.heap.size:=by omega
 have⟨t,c0⟩:=aD W X;clear z W X;go_enter func101,ntmps101
 go_upto_region 1 with fail
 rw[<-n];clear n;cases v:r.over
 ·rw[v] at H;by_cases p:r.Zq=0
  ·have a9:(r.Zq == 0)=true:=by simp[p]
   go_wp2
   go_ret
   exact⟨.yes ⟨v,.inl p⟩,t.o⟩
  ·have a9:(r.Zq == 0)=false:=by simpa using p
   obtain⟨c1,F,b0,a0⟩:=a8 v p;have f:Hid (∀w',K_ c w'->w'.cell? ⟨w.heap.size,0,none⟩=some (.slice a Kq.length cap)/\w'.cell? ⟨w.heap.size+1,0,none⟩=some (.slice h i rc)/\w'.cell? ⟨w.heap.size+1,1,none⟩=some (.slice d l.length dc)/\w'.cell? ⟨w.heap.size+2,0,none⟩=some (.string r.name)/\w'.cell? ⟨w.heap.size+2,4,none⟩=some (.int .i64 r.at')):=fun w' K=>⟨(K.cell z0).trans Y,(K.cell z1).trans Z,(K.cell z1).trans s1,(K.cell z2).trans r0,(K.cell z2).trans r4⟩
   go_upto_region 5 with fail
   refine jI 22 f.o (bB c) (fun g=>?_);have KD:K_ c c.drew:=bB c;generalize b1:c.drew=wd at g KD⊢;clear b1 Y Z s1 r0 r4 H r5;refine ae 0 g ?_;refine ae 1 g ?_;refine af 3 g ?_;refine ae 7 g ?_;refine ae 13 g ?_;refine ae 14 g ?_;refine ax 2 (fun K b=>?_);go_simp
   go_at_call 56
   refine (pg wd a Kq.length cap h i rc d l.length dc).mono ?_;rintro e w1 ⟨kb,rfl,a1,k1⟩;have I:=KD.trans k1;have b2:=Kz a1;clear a1 k1;dsimp only;refine b.out _ _ (fun _=>f.o _ I) ?_;clear b K;try simp only[Act.put,upA,upB,upC]
   clear g;refine ax 8 (fun K b=>?_);go_simp
   go_at_call 55
   refine (gp w1 a cap Kq r.name T ((V.kept t.o).kept I)).mono ?_;rintro e w2 ⟨⟨c2,rfl,hq⟩,J⟩;have j:=I.trans J;have b3:=Kz (b2.o.kept J);clear J;rcases hq with⟨L,hk,rfl,q,_⟩|⟨rfl,q⟩
   ·rw[F] at q;simp only[Option.some.injEq] at q;have M:=(V.kept t.o).kept j;obtain⟨nb,nq,cs,rfl,c4,N,na,nc,rfl,O⟩:=M L hk;obtain⟨y,P⟩:=ag (Kq.getD L Qz.zero);rw[<-P] at N O q;have n2:=N 2 _ rfl;subst q;obtain⟨x,A⟩:∃x:Nat,r.at'= (x:Int):=⟨r.at'.toNat,by omega⟩;have a2:x<y.steps.length:=by have k:=a0;rw[A] at k;dsimp only at k;omega
    obtain⟨tb,tq,c5,rfl,c6,m,aa,ca,ac,cc,rfl,Q,a3,_⟩:=O x a2;obtain⟨B,G⟩:=ag (y.steps.getD x Xq.zero);rw[<-G] at m Q a3;have t0:=m 0 _ rfl;have t1:=m 1 _ rfl;have t2:=m 2 _ rfl;have t3:=m 3 _ rfl;have t4:=m 4 _ rfl;have t5:=m 5 _ rfl;have t6:=m 6 _ rfl;have t7:=m 7 _ rfl;rw[PR] at t0;have c7:(L:Int)<(Kq.length:Int):=by omega
    have c8:(x:Int)<(y.steps.length:Int):=by omega
    have R:B∈y.steps:=by rw[G];simp[List.getD,a2]
    have S:y∈Kq:=by rw[P];simp[List.getD,hk]
    have b4:=(U y S B R).1;have b5:=(U y S B R).2;have b6:=Kz Q;have b7:=Kz (hS.kept (t.o.trans j));have b8:=Kz M;have a4:Hid (stepOf ⟨y.cost,y.steps⟩ r.at'=B):=by show _=_;unfold stepOf;rw[A,G];rfl
    have HA:=Kz F;clear N m Q a3 O P G F M b0 a0 R S;rw[A];have c9:=Kz A;clear A;dsimp only;refine b.out _ _ (fun _=>f.o _ j) ?_;clear b K;try simp only[Act.put,upA,upB,upC]
    refine ay 9 (fun K b=>?_);go_simp
    refine b.out _ _ (fun _=>f.o _ j) ?_;clear b K;try simp only[Act.put,upA,upB,upC]
    refine ay 10 (fun K b=>?_);go_simp
    refine b.out _ _ (fun _=>f.o _ j) ?_;clear b K;try simp only[Act.put,upA,upB,upC]
    refine ay 11 (fun K b=>?_);go_simp
    refine b.out _ _ (fun _=>f.o _ j) ?_;clear b K;try simp only[Act.put,upA,upB,upC]
    refine ay 12 (fun K b=>?_);go_simp
    refine b.out _ _ (fun _=>f.o _ j) ?_;clear b K;try simp only[Act.put,upA,upB,upC]
    refine ay 15 (fun K b=>?_);go_simp
    refine b.out _ _ (fun _=>f.o _ j) ?_;clear b K;try simp only[Act.put,upA,upB,upC]
    refine ay 16 (fun K b=>?_);go_simp
    refine b.out _ _ (fun _=>f.o _ j) ?_;clear b K;try simp only[Act.put,upA,upB,upC]
    refine ax 17 (fun K b=>?_);go_simp
    go_at_call 141
    refine (uX w2 kb (some ⟨nb,nq,none⟩) cap Kq d dc l B aa ac ca cc T a7 b4 b5 b3.o b8.o b7.o b6.o).mono ?_;rintro e w3 ⟨⟨d3,n3,c3,ok,rfl,a5,a6⟩,k3⟩;have C:=j.trans k3;have⟨HY,b9⟩:=aD a5 a6;clear a5 a6 k3 t0 t1 t2 t3 t4 t5 t6 t7 n2;dsimp only;refine b.out _ _ (fun _=>f.o _ C) ?_;clear b K;try simp only[Act.put,upA,upB,upC]
    refine ay 18 (fun K b=>?_);go_simp
    refine b.out _ _ (fun _=>f.o _ C) ?_;clear b K;try simp only[Act.put,upA,upB,upC]
    have g:=f.o _ C;refine ae 19 g ?_;refine ae 20 g ?_;refine ay 21 (fun K b=>?_);go_simp
    refine b.out _ _ (fun _=>f.o _ C) ?_;clear b K;try simp only[Act.put,upA,upB,upC]
    refine ay 22 (fun K b=>?_);go_simp
    refine b.out _ _ (fun s=>Qi rfl s) ?_;clear b K;try simp only[Act.put,upA,upB,upC]
    refine az ?_;go_wp2
    go_ret
    refine⟨?_,t.o.trans C⟩;cases ok
    ·refine .no fun s=>?_
     rcases s.2 with s|⟨A',xs,k,h2⟩
     ·exact p s
     ·rw[HA.o] at k;cases k;rw[a4.o,b9.o rfl] at h2;cases h2
    ·obtain⟨xs,k,_⟩:=HY.o rfl;exact .yes ⟨v,.inr ⟨_,xs,HA.o,by rw[a4.o];exact k⟩⟩
   ·rw[F] at q;cases q
 ·rw[v] at H;go_wp2
  go_ret
  exact⟨.no (fun s=>(by have k:=s.1;rw[v] at k;cases k)),t.o⟩
theorem Tryz.fJ :(prog.info? 9).map (fun i=>(i.zero,i.size,i.bytes))=some (some (.string ByteArray.empty),1,16):=by kernel_rfl
variable {l : List Qw} {v : QA} {w : Qy}
theorem vW{base:Nat}{t:TypeId}{n:Nat}(h:w.ownsRow base t 1 v n (l.map Value.string)):∃a cap,v= .slice a l.length cap/\l.length<=cap/\Strs w a l:=by
 have c:n=l.length:=by have:=h.1;simp at this;omega
 subst c;rcases h.2 with⟨rfl,d⟩|⟨g,cap,j,rfl,k,e,f,_,_,_⟩
 ·exact⟨none,0,by rw[d],by omega,fun i b=>by omega⟩
 ·refine⟨_,cap,rfl,f,fun i b=>⟨g,0,rfl,aV e, ?_⟩⟩;have:=h.cells (g:=g) rfl i (.string (l.getD i ByteArray.empty)) (by simp[List.getD,b]);rw[PQ] at this;exact this
theorem Ba{l:List Q_}{i:Nat}(h:i<l.length):l.take (i+1)=l.take i++ [l.getD i Q_.zero]:=by
 rw[Pb h];simp[List.getD,h]
def Ao(n0:Nat)(Kq:List Qz)(l:List Q_)(w':Qy)(e:Ending):Prop:=∃(da:Qx) (c:Nat) (ns:List Qw),e= .returned (.slice da ns.length c)/\iJ (Kk Kq) (Qq l) l ns/\w'.ownsRow n0 9 1 (.slice da ns.length c) ns.length (ns.map Value.string)
theorem AY(w:Qy)(a:Qx)(cap:Nat)(Kq:List Qz)(k:Qx)(m rc:Nat)(d:Qx)(dc:Nat)(l:List Q_)(a6:Kq.length<=1048576)(a7:l.length<=1048576)(a8:kY Kq)
  (a9:∀r∈l,r.over=false->r.Zq≠0->Lb Kq r) (hN:bJ w a Kq) (M:gD w d l):
  Calls prog 51 #[.agg #[.slice a Kq.length cap],.agg #[.slice k m rc,.slice d l.length dc]] w fun e w'=>Ao w.heap.size Kq l w' e/\K_ w w':=by
 obtain⟨c,n⟩:=ag ((w.alloc (.cells #[.slice a Kq.length cap] 37)).alloc (.cells #[.slice k m rc,.slice d l.length dc] 53));have N:K_ w c:=by rw[n];exact (ak _ _).alloc _
 have b1:c.heap.size=w.heap.size+2:=by rw[n];simp
 have b0:c.cell? ⟨w.heap.size,0,none⟩=some (.slice a Kq.length cap):=by rw[n,K_.cell (w:=w.alloc (.cells #[.slice a Kq.length cap] 37)) (ak _ _) (by simp)];exact X_ w _ _ 0 _ rfl
 have s0:c.cell? ⟨w.heap.size+1,0,none⟩=some (.slice k m rc):=by have:=X_ (w.alloc (.cells #[.slice a Kq.length cap] 37)) #[.slice k m rc,.slice d l.length dc] 53 0 _ rfl;rw[PL] at this;rw[n];exact this
 have s1:c.cell? ⟨w.heap.size+1,1,none⟩=some (.slice d l.length dc):=by have:=X_ (w.alloc (.cells #[.slice a Kq.length cap] 37)) #[.slice k m rc,.slice d l.length dc] 53 1 _ rfl;rw[PL] at this;rw[n];exact this
 have O:w.heap.size<c.heap.size:=by omega
 have D:w.heap.size+1<c.heap.size:=by omega
 have P:K_ c (c.alloc (.cells #[] 9)):=ak _ _;have Q:Hid ((c.alloc (.cells #[] 9)).ownsRow c.heap.size 9 1 (.slice (some ⟨c.heap.size,0,none⟩) 0 0) 0 (([]:List Qw).map Value.string)):=Pz c #[] 0 (OU _) (OW _) rfl;have v:=Kz N;clear N b1;go_enter func51,ntmps51
 go_upto_region 1 with fail
 rw[<-n];clear n;go_wp2
 go_loopg [5,6] l.length (fun gg x5 x6 wr=>∃(i:Nat) (f:List Qw),x6= .int .i64 (i:Int)/\i+gg=l.length/\f.length<=i/\Hid (iJ (Kk Kq) (Qq l) (l.take i) f)/\K_ c wr/\Hid (wr.ownsRow c.heap.size 9 1 x5 f.length (f.map Value.string)))
 case atStart=>exact⟨0,[],rfl,by omega,OU _,Kz .nil,P,Q⟩
 case round=>
  clear Q P;obtain⟨i,f,rfl,hi,c3,E,g,x⟩:=hrel;obtain⟨R,S,rfl⟩:=aG x.o;have T:=(g.cell O).trans b0;have U:=(g.cell D).trans s0;have V:=(g.cell D).trans s1;have y0:w.heap.size<wr.heap.size:=OV O g.size;have F:w.heap.size+1<wr.heap.size:=OV D g.size;by_cases b2:(i:Int)<(l.length:Int)
  ·have y:i<l.length:=by omega
   obtain⟨b,o,W,X,rfl,j,h,hT,hx⟩:=(M.kept (v.o.trans g)) i y;obtain⟨r,z⟩:=ag (l.getD i Q_.zero);rw[<-z] at h hT;have b3:r∈l:=by rw[z];simp[List.getD,y]
   have G:=h 0 _ rfl;have Y:=h 1 _ rfl;have Z:=h 2 _ rfl;have t3:=h 3 _ rfl;have t4:=h 4 _ rfl;have t5:=h 5 _ rfl;have t6:=h 6 _ rfl;rw[PR] at G;have a0:=Kz z;clear h z;have a1:Hid (∀w',K_ wr w'->w'.cell? ⟨w.heap.size,0,none⟩=some (.slice a Kq.length cap)/\w'.cell? ⟨w.heap.size+1,0,none⟩=some (.slice k m rc)/\w'.cell? ⟨w.heap.size+1,1,none⟩=some (.slice (some ⟨b,o,none⟩) l.length dc)/\w'.cell? ⟨b,o+i*7,none⟩=some (.string r.name)/\w'.cell? ⟨b,o+i*7+1,none⟩=some (.bool r.over)/\w'.cell? ⟨b,o+i*7+2,none⟩=some (.bool r.fail)/\w'.cell? ⟨b,o+i*7+3,none⟩=some (.string r.text)/\w'.cell? ⟨b,o+i*7+4,none⟩=some (.int .i64 r.at')/\w'.cell? ⟨b,o+i*7+5,none⟩=some (.int .i64 r.Zq)/\w'.cell? ⟨b,o+i*7+6,none⟩=some (.slice W r.texts.length X)):=fun w' K=>⟨(K.cell y0).trans T,(K.cell F).trans U,(K.cell F).trans V,(K.cell j).trans G,(K.cell j).trans Y,(K.cell j).trans Z,(K.cell j).trans t3,(K.cell j).trans t4,(K.cell j).trans t5,(K.cell j).trans t6⟩
   go_upto_region 5 with fail
   refine aR 7 a1.o fun wd H s=>?_
   refine af 0 s ?_;refine ae 4 s ?_;refine ae 5 s ?_;refine ae 6 s ?_;refine ax 7 (fun K A=>?_);go_simp
   go_at_call 101
   refine (Au wd a cap Kq k m rc (some ⟨b,o,none⟩) dc l r W X a6 a7 a8 (a9 r b3) (hN.kept (v.o.trans (g.trans H))) (M.kept (v.o.trans (g.trans H)))).mono ?_;rintro e p ⟨I,k3⟩;have q:=H.trans k3;clear k3;rcases I.cases with⟨rfl,a2⟩|⟨rfl,a3⟩
   ·dsimp only;refine A.out _ _ (fun t=>absurd rfl t) ?_;clear A K s;try simp only[Act.put,upA,upB,upC]
    refine az ?_;have HY:=Kz a2;clear a2 I G Y Z t3 t4 t5 t6 T U V;obtain⟨u0,u1,u2,v0,_⟩:=a1.o _ q;have c4:=OV j q.size;have c5:=OV F q.size;have J:K_ p (p.alloc (.cells #[.string r.name] 9)):=ak _ _;have a4:=Kz (ai x.o (q.trans J));have KK:=Kz (g.trans (q.trans J));have b4:c.heap.size<=(p.alloc (.cells #[.string r.name] 9)).heap.size:=KK.out.size;have b5:Hid (∀B u,([.string r.name]:List QA)[B]? =some u->(p.alloc (.cells #[.string r.name] 9)).cell? ((⟨p.heap.size,0,none⟩:Addr).add B)=some u):=fun B u C=>by rw[PQ];exact X_ p #[.string r.name] 9 B u C
    have b6:Hid (∀u∈([.string r.name]:List QA),u.oneCell'=true):=fun u C=>by simp only[PS,PT,or_false] at C;subst C;rfl
    have c6:f.length<=1048576:=by omega
    have c7:(i:Int)<(l.length:Int):=b2;obtain⟨ic,b7,b8,b9,c0⟩:=aN Tryz.fJ;clear J;go_wp2_with (at_builtin;refine wpList_append_own _ rfl (.tmp 23) (.tmp 30) 25 rfl c.heap.size 9 ic _ 1 16 underlying25 b7 b8 b9 c0 rfl (by decide) (.slice R f.length S) f.length (f.map Value.string) rfl a4.o ⟨p.heap.size,0,none⟩ 1 1 [.string r.name] rfl rfl b5.o b6.o (by unfold maxLen;omega) (by omega) b4 ?_;intro v' w6 L a5 _;have KP:=aC KK.out (OU _) a4.o a5;have HP:=Kz L;obtain⟨c8,c9,rfl⟩:=aG L;clear L a5)
    go_roundg (gk-1)
    case measure=>omega
    case rel=>exact⟨i+1,f++ [r.name],by go_num,by omega,by rw[PM];show f.length+1<=i+1;omega,Kz (by rw[Ba y,<-a0.o];exact E.o.yes HY.o),KP,Kz (by rw[Qm,PM];exact HP.o)⟩
   ·dsimp only;refine A.out _ _ (fun t=>absurd rfl t) ?_;clear A K s;try simp only[Act.put,upA,upB,upC]
    refine az ?_;have c1:=Kz a3;clear a3 I;go_wp2
    go_roundg (gk-1)
    case measure=>omega
    case rel=>exact⟨i+1,f,by go_num,by omega,by omega,Kz (by rw[Ba y,<-a0.o];exact E.o.no c1.o),g.trans q,Kz (ai x.o q)⟩
  ·have c2:i=l.length:=by omega
   have HT:=Kz (df (base':=w.heap.size) x.o v.o.size);go_wp2
   go_ret
   refine⟨⟨R,S,f,rfl, ?_,HT.o⟩,v.o.trans g⟩;have t:=E.o;rw[c2,PE] at t;exact t
theorem mi(l:List Xz)(x:Xz):aJ (l++ [x])=aJ l++if x.fail=true then [] else [x.text]:=by
 unfold aJ;rw[List.filter_append,Qm];cases a:x.fail <;> simp[a]
def JQ(xs:List Xz)(w':Qy)(e:Ending):Prop:=∃(g c:Nat),e= .returned (.slice (some ⟨g,0,none⟩) (aJ xs).length c)/\Strs w' (some ⟨g,0,none⟩) (aJ xs)
theorem Ee(w:Qy)(d:Qx)(dc:Nat)(a:List Xz)(a0:a.length<=1000)(G:eP w d a):
  Calls prog 170 #[.slice d a.length dc] w fun e w'=>JQ a w' e/\K_ w w':=by
 have v:K_ w (w.alloc (.cells #[] 9)):=ak _ _;have y:Hid ((w.alloc (.cells #[] 9)).ownsRow w.heap.size 9 1 (.slice (some ⟨w.heap.size,0,none⟩) 0 0) 0 (([]:List Qw).map Value.string)):=Pz w #[] 0 (OU _) (OW _) rfl;go_enter func170,ntmps170
 go_wp2
 go_loopg [3,4] a.length (fun H I J wr=>∃(i:Nat) (g b:Nat),I= .slice (some ⟨g,0,none⟩) (aJ (a.take i)).length b/\J= .int .i64 (i:Int)/\i+H=a.length/\(aJ (a.take i)).length<=i/\K_ w wr/\Hid (wr.ownsRow w.heap.size 9 1 (.slice (some ⟨g,0,none⟩) (aJ (a.take i)).length b) (aJ (a.take i)).length ((aJ (a.take i)).map Value.string)))
 case atStart=>exact⟨0,w.heap.size,0,rfl,rfl,by omega,OU _,v,y⟩
 case round=>
  clear y v;obtain⟨i,g,b,rfl,rfl,hi,K,h,f⟩:=hrel;by_cases a1:(i:Int)<(a.length:Int)
  ·have p:i<a.length:=by omega
   obtain⟨a2,o,rfl,hb,j⟩:=(G.kept h) i p;obtain⟨x,q⟩:=ag (a.getD i Xz.zero);rw[<-q] at j;have r:=j 0 _ rfl;have t1:=j 1 _ rfl;rw[PR] at r;have k:Hid (a.take (i+1)=a.take i++ [x]):=by show _=_;rw[Pb p,q];simp[List.getD,p]
   obtain⟨c,s⟩:=ag (aJ (a.take i));rw[<-s] at K f⊢;have z:=Kz s;clear j q s;cases l:x.fail
   ·rw[l] at r;have t:K_ wr (wr.alloc (.cells #[.string x.text] 9)):=ak _ _;have A:=Kz (ai f.o t);have B:=Kz (h.trans t);have L:w.heap.size<=(wr.alloc (.cells #[.string x.text] 9)).heap.size:=B.out.size;have M:Hid (∀m u,([.string x.text]:List QA)[m]? =some u->(wr.alloc (.cells #[.string x.text] 9)).cell? ((⟨wr.heap.size,0,none⟩:Addr).add m)=some u):=fun m u n=>by rw[PQ];exact X_ wr #[.string x.text] 9 m u n
    have N:Hid (∀u∈([.string x.text]:List QA),u.oneCell'=true):=fun u n=>by simp only[PS,PT,or_false] at n;subst n;rfl
    obtain⟨O,P,Q,R,S⟩:=aN Tryz.fJ;clear t;go_wp2_with (at_builtin;refine wpList_append_lies _ rfl (.tmp 18) (.tmp 24) 25 rfl w.heap.size 9 O _ 1 16 underlying25 P Q R S rfl (by decide) (.slice (some ⟨g,0,none⟩) c.length b) c.length (c.map Value.string) rfl A.o ⟨wr.heap.size,0,none⟩ 1 1 [.string x.text] rfl rfl M.o N.o (by omega) (by unfold maxLen;omega) (by omega) L _ rfl ?_;intro T U w6 C D V W;have X:=aC B.out (OU _) A.o D;have Y:=Kz C;clear C D V W)
    go_roundg (gk-1)
    case measure=>omega
    case rel=>
     have e:aJ (a.take (i+1))=c++ [x.text]:=by rw[k.o,mi,<-z.o,l];rfl
     exact⟨i+1,T,U,by rw[e,PM];rfl,by go_num,by omega,by rw[e,PM];show c.length+1<=i+1;omega,X,Kz (by rw[e,Qm,PM];exact Y.o)⟩
   ·rw[l] at r;go_wp2
    go_roundg (gk-1)
    case measure=>omega
    case rel=>
     have e:aJ (a.take (i+1))=c:=by rw[k.o,mi,<-z.o,l];simp
     exact⟨i+1,g,b,by rw[e],by go_num,by omega,by rw[e];omega,h,Kz (by rw[e];exact f.o)⟩
  ·have Z:i=a.length:=by omega
   have e:aJ (a.take i)=aJ a:=by rw[Z,PE]
   rw[e] at f⊢;obtain⟨d2,c2,E,a3,F⟩:=vW f.o;simp only[PO,true_and] at E;obtain⟨rfl,rfl⟩:=E;have k:=Kz F;clear F e;go_wp2
   go_ret
   exact⟨⟨g,b,rfl,k.o⟩,h⟩
theorem Tryz.nI :(prog.info? 103).map (·.size)=some 7:=by kernel_rfl
theorem ql{b o n:Nat}{cs:List QA}(h:w.rangeAt b 0 cs)(d:Row w b n)(f:o<n)(v:QA):(w.setCell ⟨b,o,none⟩ v).rangeAt b 0 (cs.set o v):=by
 intro j u a;rw[PD];rw[List.getElem?_set] at a;by_cases e:o=j
 ·subst e;rw[Qg rfl] at a;by_cases c:o<cs.length
  ·rw[Qg c] at a;cases a;exact bH d f _
  ·rw[Qh c] at a;cases a
 ·rw[Qh e] at a;rw[Xk e];have:=h j u a;rw[PD] at this;exact this
structure og (w:Qy) (b:Nat) (r:Q_) (xa:Qx) (xc:Nat):Prop where
 row:aL w b 103 7
 rng:w.rangeAt b 0 (r.cells xa xc)
variable {xc : Nat} {xa : Qx} {r : Q_}
theorem og.all{b:Nat}(h:og w b r xa xc):w.cell? ⟨b,0,none⟩=some (.string r.name)/\w.cell? ⟨b,1,none⟩=some (.bool r.over)/\w.cell? ⟨b,2,none⟩=some (.bool r.fail)/\w.cell? ⟨b,3,none⟩=some (.string r.text)/\w.cell? ⟨b,4,none⟩=some (.int .i64 r.at')/\w.cell? ⟨b,5,none⟩=some (.int .i64 r.Zq)/\w.cell? ⟨b,6,none⟩=some (.slice xa r.texts.length xc):=by
 have a:∀j v,(r.cells xa xc)[j]? =some v->w.cell? ⟨b,j,none⟩=some v:=fun j v f=>by have:=h.rng j v f;rw[PD] at this;exact this
 exact⟨a 0 _ rfl,a 1 _ rfl,a 2 _ rfl,a 3 _ rfl,a 4 _ rfl,a 5 _ rfl,a 6 _ rfl⟩
theorem og.kept{w':Qy}{b:Nat}(h:og w b r xa xc)(k:K_ w w'):og w' b r xa xc:=⟨h.row.kept k,k.range h.row.lt h.rng⟩
theorem og.put{b:Nat}{c:Q_}{xa':Qx}{xc' o:Nat}(h:og w b r xa xc)(d:o<7)(e:c.cells xa' xc'= (r.cells xa xc).set o v):og (w.setCell ⟨b,o,none⟩ v) b c xa' xc':=⟨h.row.set _,by rw[e];exact ql h.rng h.row.row d v⟩
def eB(n0:Nat)(w:Qy)(c:Nat)(a:Qx)(l:List Qw):Prop:=∀i,i<l.length->∃b o,a=some ⟨b,o,none⟩/\b<w.heap.size/\(b<n0\/c+2<=b)/\w.cell? ⟨b,o+i,none⟩=some (.string (l.getD i ByteArray.empty))
variable {c n0 : Nat} {a : Qx}
theorem eB.strs(h:eB n0 w c a l):Strs w a l:=fun i d=>by
 obtain⟨b,o,e,f,_,g⟩:=h i d;exact⟨b,o,e,f,g⟩
theorem eB.kept{w':Qy}(h:eB n0 w c a l)(k:K_ w w'):eB n0 w' c a l:=fun i d=>by
 obtain⟨f,o,e,b,g,j⟩:=h i d;exact⟨f,o,e,OV b k.size,g,(k.cell b).trans j⟩
theorem eB.set{p:Nat}(k:n0<=c)(h:eB n0 w c a l)(v:QA):eB n0 (w.setCell ⟨c,p,none⟩ v) c a l:=fun i d=>by
 obtain⟨b,o,e,f,g,j⟩:=h i d;exact⟨b,o,e,by rw[size_setCell];exact f,g,by rw[Zj (by omega)];exact j⟩
theorem eB.set1{p:Nat}(k:n0<=c)(h:eB n0 w c a l)(v:QA):eB n0 (w.setCell ⟨c+1,p,none⟩ v) c a l:=fun i d=>by
 obtain⟨b,o,e,f,g,j⟩:=h i d;exact⟨b,o,e,by rw[size_setCell];exact f,g,by rw[Zj (by omega)];exact j⟩
theorem eB.sets(b:n0<=c):∀(vs:List QA) (p:Nat) {w:Qy},eB n0 w c a l->eB n0 (w.setCells (c+1) p vs) c a l
 | [],_,_,h=>h
 | v :: r,p,_,h=>by rw[World.setCells];exact eB.sets b r (p+1) (h.set1 b v)
theorem eB.old{w':Qy}(h:Strs w a l)(k:K_ w w')(j:w.heap.size<=n0):eB n0 w' c a l:=fun i d=>by
 obtain⟨f,o,e,b,g⟩:=h i d;exact⟨f,o,e,OV b k.size,by omega,(k.cell b).trans g⟩
theorem eB.owned{base:Nat}{t:TypeId}{n:Nat}(h:w.ownsRow base t 1 v n (l.map Value.string))(k:c+2<=base):∃a cap,v= .slice a l.length cap/\eB n0 w c a l/\(a=none->cap=0):=by
 have d:n=l.length:=by have:=h.1;simp at this;omega
 subst d;rcases h.2 with⟨rfl,f⟩|⟨g,cap,m,rfl,p,j,q,_,_,_⟩
 ·exact⟨none,0,by rw[f],(fun i b=>by omega),fun _=>rfl⟩
 ·refine⟨_,cap,rfl,(fun i b=>⟨g,0,rfl,aV j,by omega, ?_⟩),fun e=>by cases e⟩;have:=h.cells (g:=g) rfl i (.string (l.getD i ByteArray.empty)) (by simp[List.getD,b]);rw[PQ] at this;exact this
structure NSt (n0:Nat) (w wr:Qy) (ab:Nat) (cost:Int) (sa:Qx) (sn sc:Nat) (r:Q_) (xa:Qx) (xc:Nat):Prop where
 kw:K_ w wr
 box:og wr (w.heap.size+2) r xa xc
 res:aL wr (w.heap.size+2+1) 103 7
 a0:wr.cell? ⟨ab,0,none⟩=some (.int .i64 cost)
 a1:wr.cell? ⟨ab,1,none⟩=some (.slice sa sn sc)
 abl:w.heap.size+4<=ab
 abz:ab<wr.heap.size
 low:n0<=w.heap.size
 txt:eB n0 wr (w.heap.size+2) xa r.texts
 nil:xa=none->xc=0
section
variable {n0 : Nat} {w wr w' : Qy} {ab : Nat} {cost : Int} {sa : Qx} {sn sc : Nat} {r r' : Q_} {xa xa' : Qx} {xc xc' : Nat}
theorem NSt.kept(h:NSt n0 w wr ab cost sa sn sc r xa xc)(k:K_ wr w'):NSt n0 w w' ab cost sa sn sc r xa xc:=
 ⟨h.kw.trans k,h.box.kept k,h.res.kept k,(k.cell h.abz).trans h.a0,(k.cell h.abz).trans h.a1,h.abl,OV h.abz k.size,h.low,h.txt.kept k,h.nil⟩
theorem NSt.NY(h:NSt n0 w wr ab cost sa sn sc r xa xc){o:Nat}(c:o<7)(e:r'.cells xa' xc'= (r.cells xa xc).set o v)(d:eB n0 wr (w.heap.size+2) xa' r'.texts)(f:xa'=none->xc'=0):NSt n0 w (wr.setCell ⟨w.heap.size+2,o,none⟩ v) ab cost sa sn sc r' xa' xc':=by
 have b:ab≠w.heap.size+2:=by have:=h.abl;omega
 have g:w.heap.size+2+1≠w.heap.size+2:=by omega
 exact⟨Below.setCell h.kw (p:=⟨w.heap.size+2,o,none⟩) (by show w.heap.size<=w.heap.size+2;omega) v,h.box.put c e,h.res.block (Below.heap_setCell _ _ _ _ g),by rw[Zj b];exact h.a0,by rw[Zj b];exact h.a1,h.abl,by rw[size_setCell];exact h.abz,h.low,d.set (by have:=h.low;omega) v,f⟩
theorem NSt.put(h:NSt n0 w wr ab cost sa sn sc r xa xc){o:Nat}(b:o<7)(e:r'.cells xa xc= (r.cells xa xc).set o v)(c:r'.texts=r.texts):NSt n0 w (wr.setCell ⟨w.heap.size+2,o,none⟩ v) ab cost sa sn sc r' xa xc:=
 h.NY b e (by rw[c];exact h.txt) h.nil
end
theorem NSt.made{b c:Qy}{a:Nat}{cost:Int}{e:Qx}{f g:Nat}(j:K_ w b)(t:b.heap.size=w.heap.size+4)(K:K_ b c)(l:og b (w.heap.size+2) r xa xc)(m:aL b (w.heap.size+2+1) 103 7)(n:n0<=w.heap.size)(q:eB n0 b (w.heap.size+2) xa r.texts)(s:xa=none->xc=0)(i:b.heap.size<=a)(h:aL c a 88 2):
  K_ b ((c.setCell ⟨a,0,none⟩ (.int .i64 cost)).setCell ⟨a,1,none⟩ (.slice e f g))/\NSt n0 w ((c.setCell ⟨a,0,none⟩ (.int .i64 cost)).setCell ⟨a,1,none⟩ (.slice e f g)) a cost e f g r xa xc:=by
 have d:K_ b ((c.setCell ⟨a,0,none⟩ (.int .i64 cost)).setCell ⟨a,1,none⟩ (.slice e f g)):=Below.setCell (Below.setCell K (p:=⟨a,0,none⟩) i _) (p:=⟨a,1,none⟩) i _;refine⟨d,j.trans d,l.kept d,m.kept d,(Xk (by omega) _).trans (bH h.row (by omega) _),bH (h.set _).row (by omega) _,by omega, ?_,n,q.kept d,s⟩;rw[size_setCell,size_setCell];exact h.lt
def yU(n0 c:Nat)(W:aZ)(σ:Env)(r:Q_)(w':Qy)(e:Ending):Prop:=
 ∃(xa':Qx) (xc':Nat) (ka:Qx) (kc:Nat),e= .returned (.tuple #[.agg ((Xx W σ r).1.cells xa' xc').toArray,.slice ka (Xx W σ r).2.length kc])/\eB n0 w' c xa' (Xx W σ r).1.texts/\(xa'=none->xc'=0)/\eB n0 w' c ka (Xx W σ r).2
theorem bG{g:Nat}(a:w.heap.size<=g):∀(vs:List QA) (o:Nat) {u:Qy},K_ w u->K_ w (u.setCells g o vs)
 | [],_,_,h=>h
 | v :: r,o,_,h=>by rw[World.setCells];exact bG a r (o+1) (Below.setCell h (p:=⟨g,o,none⟩) a v)
theorem NSt.ends{W:aZ}{σ:Env}{wr:Qy}{g:Nat}{cost:Int}{i:Qx}{j k:Nat}{a:Q_}{asks:List Qw}{b:Qx}{d f:Nat}{e:Ending}(h:NSt n0 w wr g cost i j k a xa xc)(c:Xx W σ r= (a,asks))(l:eB n0 wr (w.heap.size+2) b asks)(m:d=asks.length)
 (n:e= .returned (.tuple #[.agg (a.cells xa xc).toArray,.slice b d f])):yU n0 (w.heap.size+2) W σ r (wr.setCells (w.heap.size+2+1) 0 (a.cells xa xc)) e/\K_ w (wr.setCells (w.heap.size+2+1) 0 (a.cells xa xc)):=by
 refine⟨⟨xa,xc,b,f, ?_, ?_,h.nil, ?_⟩,bG (by omega) _ _ h.kw⟩
 ·rw[c,n,m]
 ·rw[c];exact h.txt.sets (by have:=h.low;omega) _ _
 ·rw[c];exact l.sets (by have:=h.low;omega) _ _
theorem Tryz.EE :(prog.info? 103).map (fun i=>(i.zero,i.size,i.bytes))=some (some (.agg #[.string ⟨#[]⟩,.bool false,.bool false,.string ⟨#[]⟩,.int .i64 0,.int .i64 0,.slice none 0 0]),7,80):=by kernel_rfl
def nM(w:Qy)(P:Nat->Prop)(a:Qx)(l:List Q_):Prop:=
 ∀i,i<l.length->∃b o xa xc,a=some ⟨b,o,none⟩/\b<w.heap.size/\w.rangeAt b (o+i*7) ((l.getD i Q_.zero).cells xa xc)/\Strs w xa (l.getD i Q_.zero).texts/\(xa=none->xc=0)/\(∀ad:Addr,xa=some ad->P ad.block)
variable {l : List Q_} {P : Nat -> Prop} {a : Qx} {w w' : Qy}
theorem nM.kept(h:nM w P a l)(k:K_ w w'):nM w' P a l:=by
 intro i c;obtain⟨d,o,e,f,g,b,j,m,n⟩:=h i c;exact⟨d,o,e,f,g,OV b k.size,k.range b j,m.kept k,n⟩
theorem nM.runs(h:nM w P a l):gD w a l:=by
 intro i c;obtain⟨b,o,d,f,e,g,j,k,m,_⟩:=h i c;exact⟨b,o,d,f,e,g,j,k,m⟩
theorem gD.all(h:gD w a l):nM w (fun _=>True) a l:=by
 intro i c;obtain⟨b,o,d,f,e,g,j,k,m⟩:=h i c;exact⟨b,o,d,f,e,g,j,k,m,fun _ _=>trivial⟩
def cK(w:Qy)(P:Nat->Prop)(xs:List QA)(l:List Q_):Prop:=xs.length=l.length*7/\∀i,i<l.length->∃xa xc,(xs.drop (i*7)).take 7= (l.getD i Q_.zero).cells xa xc/\Strs w xa (l.getD i Q_.zero).texts/\(xa=none->xc=0)/\(∀ad:Addr,xa=some ad->P ad.block)
theorem cK.nil(w:Qy)(P:Nat->Prop):cK w P [] []:=⟨rfl,fun i a=>by simp at a⟩
variable {xs : List QA}
theorem cK.kept(h:cK w P xs l)(k:K_ w w'):cK w' P xs l:=⟨h.1,fun i a=>by obtain⟨b,c,d,e,f⟩:=h.2 i a;exact⟨b,c,d,e.kept k,f⟩⟩
theorem cK.snoc{r:Q_}{xa:Qx}{xc:Nat}(h:cK w P xs l)(e:Strs w xa r.texts)(f:xa=none->xc=0)(g:∀ad:Addr,xa=some ad->P ad.block):cK w P (xs++r.cells xa xc) (l++ [r]):=by
 refine⟨by simp[h.1,Q_.cells];omega,fun i c=>?_⟩;rw[PM] at c;simp only[PP,List.length_nil] at c;by_cases d:i<l.length
 ·have a:(l++ [r]).getD i Q_.zero=l.getD i Q_.zero:=by simp[List.getD,PY d]
  have b:((xs++r.cells xa xc).drop (i*7)).take 7= (xs.drop (i*7)).take 7:=by
   rw[List.drop_append_of_le_length (by rw[h.1];omega),List.take_append_of_le_length (by rw[List.length_drop,h.1];omega)]
  rw[a,b];exact h.2 i d
 ·obtain rfl:i=l.length:=by omega
  have a:(l++ [r]).getD l.length Q_.zero=r:=by simp[List.getD]
  have b:((xs++r.cells xa xc).drop (l.length*7)).take 7=r.cells xa xc:=by
   rw[<-h.1,List.drop_left]
   rfl
  rw[a,b];exact⟨xa,xc,rfl,e,f,g⟩
variable {base n : Nat}
theorem cK.runs{v:QA}(b:w'.ownsRow base 103 7 v n xs)(h:cK w P xs l)(k:K_ w w'):n=l.length/\∃a cap,v= .slice a l.length cap/\nM w' P a l:=by
 have m:n=l.length:=by have z:=b.1;have A:=h.1;omega
 subst m;refine⟨rfl, ?_⟩;rcases b.2 with⟨rfl,p⟩|⟨g,cap,B,rfl,C,q,D,_,_,_⟩
 ·exact⟨none,0,by rw[p],fun i c=>by omega⟩
 ·refine⟨_,cap,rfl,fun i c=>?_⟩;obtain⟨r,s,e,t,x⟩:=h.2 i c;refine⟨g,0,r,s,rfl,aV q,(fun j u d=>?_),t.kept k,x⟩;have y:j<7:=by have:=(O_.1 d).1;simpa[Q_.cells] using this
  have f:((xs.drop (i*7)).take 7)[j]? =some u:=by rw[e];exact d
  rw[List.getElem?_take,Qg y,List.getElem?_drop] at f;have:=b.cells (g:=g) rfl _ _ f;rw[PQ] at this;rw[PD] at this⊢;exact this
theorem IK{c p:Nat}{t:TypeId}{v u:QA}{l:List Qw}(h:w.ownsRow base t 1 v n (l.map Value.string))(q:c<base):∃a cap,v= .slice a l.length cap/\Strs (w.setCell ⟨c,p,none⟩ u) a l/\(a=none->cap=0)/\(∀b:Addr,a=some b->base<=b.block):=by
 have f:n=l.length:=by have:=h.1;simp at this;omega
 subst f;rcases h.2 with⟨rfl,j⟩|⟨g,cap,r,rfl,k,m,s,_,_,_⟩
 ·exact⟨none,0,by rw[j],(fun i d=>by omega),(fun _=>rfl),fun b e=>by cases e⟩
 ·refine⟨_,cap,rfl,(fun i d=>⟨g,0,rfl,by rw[size_setCell];exact aV m, ?_⟩),(fun e=>by cases e),fun b e=>by cases e;exact k⟩;have:=h.cells (g:=g) rfl i (.string (l.getD i ByteArray.empty)) (by simp[List.getD,d]);rw[PQ] at this;rw[Zj (by omega)];exact this
def Nh(w2 wr:Qy)(P:Nat->Prop)(out:QA)(p:List Q_×Bool):Prop:=∃xs,wr.ownsRow w2.heap.size 103 7 out p.1.length xs/\cK w2 P xs p.1/\K_ w2 wr
def LC(w w':Qy)(P:Nat->Prop)(v:QA)(l:List Q_):Prop:=∃w2 xs,K_ w w2/\K_ w2 w'/\w'.ownsRow w2.heap.size 103 7 v l.length xs/\cK w2 P xs l
structure KnX (wz wr:Qy) (kb:Nat) (a:Qx) (n cap:Nat) (R:List Q_) (d:Qx) (dc:Nat) (xs:List QA):Prop where
 kw:K_ wz wr
 known:jE wr kb a n cap d R.length dc
 own:wr.ownsRow wz.heap.size 103 7 (.slice d R.length dc) R.length xs
 pack:cK wz (fun _=>True) xs R
variable {R : List Q_} {cap dc kb : Nat} {d : Qx} {wr wz : Qy}
theorem KnX.kept(h:KnX wz wr kb a n cap R d dc xs)(k:K_ wr w'):KnX wz w' kb a n cap R d dc xs:=
 ⟨h.kw.trans k,h.known.kept k,ai h.own k,h.pack⟩
theorem KnX.runs(h:KnX wz wr kb a n cap R d dc xs):gD wr d R:=by
 obtain⟨_,f,g,c,e⟩:=cK.runs h.own h.pack h.kw;simp only[PO,true_and] at c;rw[c.1];exact e.runs
theorem own_ne{v:QA}(b:aL w kb 94 2)(h:w.ownsRow base 103 7 v n xs):some kb≠v.ownBlock:=by
 rcases h.2 with⟨rfl,_⟩|⟨g,d,f,rfl,_,c,_⟩
 ·intro e;cases e
 ·intro e;simp only[Value.ownBlock,PN] at e;subst e;obtain⟨i,a,_⟩:=b;rw[c] at a;simp only[PN,Obj.cells.injEq] at a;exact Qi a.2.1 (by decide)
theorem KnX.block{W e:Qy}(h:KnX wz wr kb a n cap R d dc xs)(c:K_ wr W)(f:W.grownBy e (Value.slice d R.length dc).ownBlock):e.heap[kb]? =W.heap[kb]? :=
 f.block kb (h.known.kept c).row.lt (own_ne (h.known.kept c).row (ai h.own c))
theorem KnX.grown{W c:Qy}(h:KnX wz wr kb a n cap R d dc xs)(b:K_ wr W)(g:W.grownBy c (Value.slice d R.length dc).ownBlock):K_ wz c/\jE c kb a n cap d R.length dc:=by
 have e:=h.block b g;have f:=h.known.kept b;exact⟨aC (h.kw.trans b) (OU _) (ai h.own b) g,f.row.block e,(Pi (w:=W) e).trans f.web,(Pi (w:=W) e).trans f.runs⟩
theorem IM{size:Nat}{e:TypeId}{v:QA}(h:w.ownsRow base e size v n xs){o:Nat}(a:some kb≠v.ownBlock)(u:QA):(w.setCell ⟨kb,o,none⟩ u).ownsRow base e size v n xs:=by
 refine⟨h.1, ?_⟩;rcases h.2 with b|⟨g,c,d,rfl,f,i,rest⟩
 ·exact .inl b
 ·refine .inr ⟨g,c,d,rfl,f, ?_,rest⟩;rw[Below.heap_setCell _ _ _ _ (fun e=>a (by simp[Value.ownBlock,e]))];exact i
theorem KnX.next{W c:Qy}{e:Nat}{f:Qx}{y:Q_}{xa:Qx}{xc:Nat}(h:KnX wz wr kb a n cap R d dc xs)(j:wz.heap.size<=kb)(k:K_ wr W)(l:W.grownBy c (Value.slice d R.length dc).ownBlock)
 (g:c.ownsRow wz.heap.size 103 7 (.slice f (R.length+1) e) (R.length+1) (xs++y.cells xa xc)) (m:Strs wz xa y.texts) (q:xa=none->xc=0):
  KnX wz (c.setCell ⟨kb,1,none⟩ (.slice f (R.length+1) e)) kb a n cap (R++ [y]) f e (xs++y.cells xa xc):=by
 obtain⟨r,b⟩:=h.grown k l;have i:(R++ [y]).length=R.length+1:=by simp
 refine⟨Below.setCell r (p:=⟨kb,1,none⟩) j _,⟨b.row.set _, ?_, ?_⟩, ?_,h.pack.snoc m q (fun _ _=>trivial)⟩
 ·rw[Xk (by omega)];exact b.web
 ·rw[i];exact bH b.row.row (by omega) _
 ·rw[i];exact IM g (own_ne b.row g) _
theorem wY(W:aZ):∀(bs:List Qw) (l:List Q_) (n:Qw),fC W l (bs++ [n])=if (W n).isSome=true/\(Qq (fC W l bs) n).isNone=true then fC W l bs++ [Q_.fresh n] else fC W l bs
 | [],_l,_n=>rfl
 | _b :: bs,_l,n=>wY W bs _ n
theorem FK(W:aZ)(l:List Q_){a:List Qw}{k:Nat}(h:k<a.length):fC W l (a.take (k+1))=if (W (a.getD k ByteArray.empty)).isSome=true/\(Qq (fC W l (a.take k)) (a.getD k ByteArray.empty)).isNone=true then fC W l (a.take k)++ [Q_.fresh (a.getD k ByteArray.empty)] else fC W l (a.take k):=by
 rw[Pb h,wY];simp[List.getD,h]
theorem qx(W:aZ):∀(bs:List Qw) (l:List Q_),(fC W l bs).length<=l.length+bs.length
 | [],l=>by simp[fC]
 | b :: bs,l=>by
  have h:=qx W bs (if (W b).isSome=true/\(Qq l b).isNone=true then l++ [Q_.fresh b] else l);show (fC W (if (W b).isSome=true/\(Qq l b).isNone=true then l++ [Q_.fresh b] else l) bs).length<=_
  split at h <;> rename_i hc
  ·rw[Qg hc];simp at h⊢;omega
  ·rw[Qh hc];simp at h⊢;omega
theorem Dg(w:Qy)(a:Qx)(cap:Nat)(l:List Qz)(b:Qw)(d:l.length<=1048576)(f:bJ w a l)(h:(Kk l b).isSome=true):
  Calls prog 55 #[.agg #[.slice a l.length cap],.string b] w fun e w'=>(∃r:Nat,e= .returned (.int .i64 (r:Int)))/\K_ w w':=by
 refine (gp w a cap l b d f).mono ?_;rintro e w' ⟨⟨r,rfl,g⟩,k⟩;rcases g with⟨i,_,rfl,_⟩|⟨_,j⟩
 ·exact⟨⟨i,rfl⟩,k⟩
 ·rw[j] at h;cases h
theorem Lt(w:Qy)(a:Qx)(cap:Nat)(l:List Qz)(b:Qw)(d:l.length<=1048576)(f:bJ w a l)(h:¬(Kk l b).isSome=true):
  Calls prog 55 #[.agg #[.slice a l.length cap],.string b] w fun e w'=>e= .returned (.int .i64 (-1))/\K_ w w':=by
 refine (gp w a cap l b d f).mono ?_;rintro e w' ⟨⟨r,rfl,g⟩,k⟩;rcases g with⟨i,_,rfl,c,_⟩|⟨rfl,c⟩
 ·rw[c] at h;exact Qi rfl h
 ·exact⟨rfl,k⟩
theorem Km(w:Qy)(b:Nat)(a:Qx)(n cap:Nat)(d:Qx)(dc:Nat)(l:List Q_)(c:Qw)(f:l.length<=1048576)(g:jE w b a n cap d l.length dc)(i:gD w d l)(h:(Qq l c).isNone=true):
  Calls prog 97 #[.pointer (some ⟨b,0,none⟩),.string c] w fun e w'=>(∃r:Int,e= .returned (.int .i64 r)/\r<0)/\w'=w:=by
 refine (JR w b a n cap d dc l c f g i).mono ?_;rintro e w' ⟨⟨r,rfl,j⟩,k⟩;rcases j with⟨p,_,rfl,m,_⟩|⟨rfl,_⟩
 ·rw[m] at h;cases h
 ·exact⟨⟨-1,rfl,by omega⟩,k⟩
theorem KM(w:Qy)(b:Nat)(a:Qx)(n cap:Nat)(d:Qx)(dc:Nat)(l:List Q_)(c:Qw)(f:l.length<=1048576)(g:jE w b a n cap d l.length dc)(i:gD w d l)(h:¬(Qq l c).isNone=true):
  Calls prog 97 #[.pointer (some ⟨b,0,none⟩),.string c] w fun e w'=>(∃r:Nat,e= .returned (.int .i64 (r:Int)))/\w'=w:=by
 refine (JR w b a n cap d dc l c f g i).mono ?_;rintro e w' ⟨⟨r,rfl,j⟩,k⟩;rcases j with⟨m,_,rfl,_⟩|⟨_,p⟩
 ·exact⟨⟨m,rfl⟩,k⟩
 ·rw[p] at h;exact Qi rfl h
theorem FV(x:Option Q_):lZ x<=23:=by
 cases x with
 | none=>exact OU _
 | some r=>
  show (if r.over=true then 0 else 22-r.Zq.toNat)<=23
  split <;> omega
theorem uS(σ:Env):∀l:List Qw,eT l σ<=23*l.length
 | []=>OW _
 | n :: l=>by
  have h:=uS σ l;have c:=FV (σ n);have e:eT (n :: l) σ=lZ (σ n)+eT l σ:=by simp[eT]
  rw[e,PP];omega
theorem A_(Kq:List Qz)(l:List Q_):mE Kq l<=23*Kq.length:=by
 have h:=uS (Qq l) (Kq.map (·.name));rw[Qc] at h;exact h
structure aX where
 name:Qw
 fin:Int
 slot:Nat
structure aF where
 at':Int
 worker:Nat
 name:Qw
structure aS where
 T:List Q_
 busy:List (Option aX)
 slots:List aF
 back:List Int
 cause:Qw->Int
def aM(W:aZ)(n:Qw):Int:=match W n with
 | some a=>a.cost
 | none=>0
def doN(W:aZ)(T:List Q_)(n:Qw):List Q_:=match Qq T n with
 | some r=>doL W T r
 | none=>T
open Classical in
noncomputable def doneS (W:aZ) (S:aS) (n:Qw) (j:Int):aS:=
 {S with T:=doN W S.T n,cause:=fun m=>if bD W (Qq (doN W S.T n)) m/\(m=n\/¬bD W (Qq S.T) m) then j else S.cause m}
def Sp(W:aZ)(S:aS)(n:Qw):Prop:=∃r,Qq S.T n=some r/\bL W (Qq S.T) r/\r.Zq=20
def Bz(S:aS)(n:Qw):Prop:=∃(k:Nat) (e:aX),S.busy[k]? =some (some e)/\e.name=n
def Of(W:aZ)(S:aS)(n:Qw):Prop:=bD W (Qq S.T) n/\¬Bz S n
def qH(W:aZ)(n m:Qw):Prop:=aM W m<aM W n\/(aM W n=aM W m/\aH n m)
variable {W : aZ} {n : Qw}
theorem qH.asymm{m:Qw}(h:qH W n m):¬qH W m n:=by
 rintro (g | ⟨e,b⟩) <;> rcases h with h | ⟨f,c⟩
 ·omega
 ·omega
 ·omega
 ·exact di c b
def nH(P:Qw->Prop)(lt:Qw->Qw->Prop)(n:Qw):Prop:=P n/\∀m,P m->m≠n->lt n m
theorem nH.unique{P:Qw->Prop}{lt:Qw->Qw->Prop}(c:∀{a b},lt a b->¬lt b a){m:Qw}(h:nH P lt n)(g:nH P lt m):n=m:=by
 by_cases e:n=m
 ·exact e
 ·exact Qi (g.2 n h.1 e) (c (h.2 m g.1 (fun x=>e x.symm)))
def f_(W:aZ)(S:aS)(t:Int)(k:Nat)(n:Qw):aS:=
 {S with busy:=S.busy.set k (some ⟨n,t+aM W n,S.slots.length⟩),slots:=S.slots++ [⟨t,k,n⟩],back:=S.back++ [S.cause n]}
inductive kH (W:aZ) (t:Int):aS->aS->Prop
 | stop {S:aS} (h:∀(k:Nat) (e:aX),S.busy[k]? =some (some e)->e.fin≠t):kH W t S S
 | go {S S':aS} {k:Nat} {e:aX} (hk:S.busy[k]? =some (some e)) (he:e.fin=t) (hl:∀(k':Nat) (e':aX),k'≠k->S.busy[k']? =some (some e')->e'.fin=t->aH e.name e'.name)
   (h:kH W t (doneS W {S with busy:=S.busy.set k none} e.name e.slot) S'):kH W t S S'
inductive lS (W:aZ):aS->aS->Prop
 | stop {S:aS} (h:∀n,¬Sp W S n):lS W S S
 | go {S S':aS} {n:Qw} (hn:nH (Sp W S) aH n) (h:lS W (doneS W S n (S.cause n)) S'):lS W S S'
inductive j_ (W:aZ) (t:Int):aS->aS->Prop
 | stop {S:aS} (h:(∀k:Nat,S.busy[k]?≠some none)\/∀n,¬Of W S n):j_ W t S S
 | go {S S':aS} {k:Nat} {n:Qw} (hk:S.busy[k]? =some none) (hl:∀k':Nat,k' < k->S.busy[k']?≠some none) (hn:nH (Of W S) (qH W) n) (h:j_ W t (f_ W S t k n) S'):j_ W t S S'
def jb(W:aZ)(t:Int)(S S3:aS):Prop:=∃S1 S2,kH W t S S1/\lS W S1 S2/\j_ W t S2 S3
def lg(S:aS):Prop:=∀(k:Nat) (e:aX),S.busy[k]?≠some (some e)
inductive si (W:aZ):Int->aS->Int->aS->Prop
 | last {t:Int} {S S3:aS} (h:jb W t S S3) (hi:lg S3):si W t S t S3
 | next {t t' u:Int} {S S3 S':aS} (h:jb W t S S3) (ht:∃(k:Nat) (e:aX),S3.busy[k]? =some (some e)/\e.fin=t') (hl:∀(k:Nat) (e:aX),S3.busy[k]? =some (some e)->t'<=e.fin) (hw:si W t' S3 u S'):si W t S u S'
inductive Gm (W:aZ):Int->aS->Int->aS->Prop
 | last {t:Int} {S S3:aS} (h:jb W t S S3) (hi:lg S3):Gm W t S t S3
 | next {t u:Int} {S S3 S':aS} (h:jb W t S S3) (hi:¬lg S3) (hw:Gm W (t+1) S3 u S'):Gm W t S u S'
variable {t : Int} {A B S : aS}
theorem kH.unique(h:kH W t S A)(g:kH W t S B):A=B:=by
 induction h with
 | stop h=>
  cases g with
  | stop=>rfl
  | go hk he=>exact Qi he (h _ _ hk)
 | @go S S' k e hk he hl _ ih=>
  cases g with
  | stop g=>exact Qi he (g _ _ hk)
  | @go _ _ k' e' hk' he' hl' h'=>
   by_cases b:k'=k
   ·subst b;rw[hk] at hk';simp only[PN] at hk';subst hk';exact ih h'
   ·exact Qi (hl k' e' b hk' he') (di (hl' k e (fun x=>b x.symm) hk he))
theorem lS.unique(h:lS W S A)(g:lS W S B):A=B:=by
 induction h with
 | stop h=>
  cases g with
  | stop=>rfl
  | go hn=>exact Qi hn.1 (h _)
 | go hn _ ih=>
  cases g with
  | stop g=>exact Qi hn.1 (g _)
  | go hn' h'=>
   obtain rfl:=hn.unique di hn';exact ih h'
theorem j_.unique(h:j_ W t S A)(g:j_ W t S B):A=B:=by
 induction h with
 | stop h=>
  cases g with
  | stop=>rfl
  | go hk _ hn=>
   rcases h with h|h
   ·exact Qi hk (h _)
   ·exact Qi hn.1 (h _)
 | @go S S' k n hk hl hn _ ih=>
  cases g with
  | stop g=>
   rcases g with g|g
   ·exact Qi hk (g _)
   ·exact Qi hn.1 (g _)
  | @go _ _ k' n' hk' hl' hn' h'=>
   have b:k'=k:=by
    rcases Qf k' k with h|h|h
    ·exact Qi hk' (hl k' h)
    ·exact h
    ·exact Qi hk (hl' k h)
   subst b;obtain rfl:=hn.unique qH.asymm hn';exact ih h'
theorem jb.unique(h:jb W t S A)(g:jb W t S B):A=B:=by
 obtain⟨i,j,a,b,c⟩:=h;obtain⟨k,l,d,e,f⟩:=g;obtain rfl:=a.unique d;obtain rfl:=b.unique e;exact c.unique f
theorem si.unique{u d:Int}(h:si W t S u A)(g:si W t S d B):u=d/\A=B:=by
 induction h with
 | last h hi=>
  cases g with
  | last g _=>exact⟨rfl,h.unique g⟩
  | next g gt=>
   obtain rfl:=h.unique g;obtain⟨k,e,c,_⟩:=gt;exact Qi c (hi k e)
 | next h ht hl _ ih=>
  cases g with
  | last g gi=>
   obtain rfl:=h.unique g;obtain⟨k,e,c,_⟩:=ht;exact Qi c (gi k e)
  | next g gt gl gw=>
   obtain rfl:=h.unique g;obtain⟨k,e,c,f⟩:=ht;obtain⟨i,j,l,m⟩:=gt;have a:=hl i j l;have b:=gl k e c;rw[m] at a;rw[f] at b;obtain rfl:=Int.le_antisymm a b;exact ih gw
structure uU (W:aZ) (t:Int) (S:aS):Prop where
 spt:∀n,¬Sp W S n
 beg:(∀k:Nat,S.busy[k]?≠some none)\/∀n,¬Of W S n
 fin:∀(k:Nat) (e:aX),S.busy[k]? =some (some e)->t<e.fin
theorem uU.tick{u:Int}(h:uU W t S)(b:∀(k:Nat) (e:aX),S.busy[k]? =some (some e)->e.fin≠u):jb W u S S:=⟨S,S,.stop b,.stop h.spt,.stop h.beg⟩
variable {α : Type}
theorem iF{l:List (Option α)}{k j:Nat}{x:Option α}{y:α}(h:(l.set k x)[j]? =some (some y)):(j=k/\x=some y)\/(j≠k/\l[j]? =some (some y)):=by
 by_cases e:j=k
 ·subst e;rw[List.getElem?_set] at h;simp only[if_true] at h
  split at h
  ·exact .inl ⟨rfl,by simpa using h⟩
  ·cases h
 ·rw[List.getElem?_set,Qh (fun x=>e x.symm)] at h;exact .inr ⟨e,h⟩
def uY(t:Int)(S:aS):Prop:=∀(k:Nat) (e:aX),S.busy[k]? =some (some e)->t<=e.fin
theorem kH.behind(h:kH W t S A)(b:uY t S):∀(k:Nat) (e:aX),A.busy[k]? =some (some e)->t<e.fin:=by
 induction h with
 | stop h=>exact fun k e a=>by have:=b k e a;have:=h k e a;omega
 | go a he hl _ ih=>
  refine ih (fun c d f=>?_);rcases iF f with⟨_,x⟩ | ⟨_,x⟩
  ·cases x
  ·exact b c d x
theorem lS.busy(h:lS W S A):A.busy=S.busy/\∀n,¬Sp W A n:=by
 induction h with
 | stop h=>exact⟨rfl,h⟩
 | go _ _ ih=>exact ih
theorem j_.behind(h:j_ W t S A)(a:∀n,bD W (Qq S.T) n->0<aM W n)(b:∀(k:Nat) (e:aX),S.busy[k]? =some (some e)->t<e.fin)(c:∀n,¬Sp W S n):uU W t A:=by
 induction h with
 | stop h=>exact⟨c,h,b⟩
 | go hk hl hn _ ih=>
  refine ih a (fun d f g=>?_) c;rcases iF g with⟨_,x⟩ | ⟨_,x⟩
  ·simp only[PN] at x;subst x;have:=a _ hn.1.1;simp only;omega
  ·exact b d f x
def MU(W:aZ):Prop:=∀n a,W n=some a->0<a.cost
def Gh(W:aZ)(S:aS):Prop:=∀n r,Qq S.T n=some r->(W n).isSome=true
theorem Gh.cost(h:Gh W S)(c:MU W):∀n,bD W (Qq S.T) n->0<aM W n:=fun n ⟨r,e,_⟩=>by
 obtain⟨f,a⟩:=Ps.1 (h n r e);unfold aM;rw[a];exact c n f a
variable {T : List Q_}
theorem yj(b:dB T)(h:∀m r,Qq T m=some r->(W m).isSome=true):dB (doN W T n)/\∀m r,Qq (doN W T n) m=some r->(W m).isSome=true:=by
 unfold doN
 split
 ·next r hr=>
  refine⟨Bn b,fun m x a=>?_⟩;rw[jJ b hr,jw hr] at a
  split at a
  ·next e=>rw[e];exact h n r hr
  ·split at a
   ·next y hy=>exact h m y hy
   ·split at a
    ·next g=>exact g.2
    ·cases a
 ·exact⟨b,h⟩
structure Ok8 (W:aZ) (S:aS):Prop where
 asc:dB S.T
 known:Gh W S
theorem Ok8.done{j:Int}(h:Ok8 W S):Ok8 W (doneS W S n j):=⟨(yj h.asc h.known).1,(yj h.asc h.known).2⟩
theorem kH.ok(h:kH W t S A)(a:Ok8 W S):Ok8 W A:=by
 induction h with
 | stop=>exact a
 | go _ _ _ _ ih=>exact ih (Ok8.done ⟨a.asc,a.known⟩)
theorem lS.ok(h:lS W S A)(a:Ok8 W S):Ok8 W A:=by
 induction h with
 | stop=>exact a
 | go _ _ ih=>exact ih a.done
theorem j_.ok(h:j_ W t S A)(a:Ok8 W S):Ok8 W A:=by
 induction h with
 | stop=>exact a
 | go _ _ _ _ ih=>exact ih ⟨a.asc,a.known⟩
theorem jb.rest(h:jb W t S A)(f:Ok8 W S)(g:MU W)(i:uY t S):uU W t A/\Ok8 W A:=by
 obtain⟨l,m,a,b,c⟩:=h;have j:=a.ok f;have d:=b.ok j;obtain⟨e,k⟩:=b.busy;exact⟨c.behind (d.known.cost g) (by rw[e];exact a.behind i) k,c.ok d⟩
theorem Gm.wrk{u:Int}(h:Gm W t S u A)(j:Ok8 W S)(l:MU W)(m:uY t S):si W t S u A:=by
 induction h with
 | last h hi=>exact .last h hi
 | @next t u S S3 S' h hi _ ih=>
  obtain⟨b,n⟩:=h.rest j l m;have c:uY (t+1) S3:=fun k e a=>by have:=b.fin k e a;omega
  have d:=ih n c;by_cases f:∃(k:Nat) (e:aX),S3.busy[k]? =some (some e)/\e.fin=t+1
  ·exact .next h f c d
  ·have i:jb W (t+1) S3 S3:=b.tick (fun k e a p=>f ⟨k,e,a,p⟩);cases d with
   | last g gi=>
    obtain rfl:=i.unique g;exact Qi gi hi
   | next g gt gl gw=>
    obtain rfl:=i.unique g;exact .next h gt gl gw
def dH(b:List (Option aX))(ps:List (Nat×aX)):List (Option aX):=ps.foldl (fun x p=>x.set p.1 none) b
noncomputable def dones (W:aZ) (S:aS) (ps:List (Nat×aX)):aS:=ps.foldl (fun A p=>doneS W A p.2.name p.2.slot) S
theorem kH.Nr :∀(ps:List (Nat×aX)) (S:aS),ps.Pairwise (fun p q=>aH p.2.name q.2.name)->(∀(k:Nat) (e:aX),(S.busy[k]? =some (some e)/\e.fin=t)↔(k,e)∈ps)->kH W t S (dones W {S with busy:=dH S.busy ps} ps)
 | [],S,_,h=>.stop fun k e f g=>by have:=(h k e).1 ⟨f,g⟩;cases this
 | (k,e) :: ps,S,hp,h=>by
  rw[Qs] at hp;obtain⟨f,g⟩:=(h k e).2 (by simp);refine .go f g (fun b c i n r=>?_) ?_
  ·rcases PS.1 ((h b c).1 ⟨n,r⟩) with a|a
   ·exact Qi (by injection a) i
   ·exact hp.1 _ a
  ·refine kH.Nr ps _ hp.2 (fun b c=>?_);show ((S.busy.set k none)[b]? =some (some c)/\c.fin=t)↔_;constructor
   ·rintro⟨d,j⟩;rcases iF d with⟨_,x⟩|⟨s,v⟩
    ·cases x
    ·rcases PS.1 ((h b c).1 ⟨v,j⟩) with a|a
     ·exact Qi (by injection a) s
     ·exact a
   ·intro m;obtain⟨d,j⟩:=(h b c).2 (Pn _ m);have i:b≠k:=by
     rintro rfl;rw[f] at d;simp only[PN] at d;subst d;exact aI _ (hp.1 _ m)
    rw[List.getElem?_set,Qh (fun x=>i x.symm)];exact⟨d,j⟩
structure jm (W:aZ) (wk:Nat) (S:aS):Prop where
 ok:Ok8 W S
 len:S.busy.length=wk
 diff:∀(k k':Nat) (e e':aX),S.busy[k]? =some (some e)->S.busy[k']? =some (some e')->e.name=e'.name->k=k'
 rdy:∀(k:Nat) (e:aX),S.busy[k]? =some (some e)->bD W (Qq S.T) e.name
 back:S.back.length=S.slots.length
 slot:∀(k:Nat) (e:aX),S.busy[k]? =some (some e)->e.slot<S.slots.length
 fin:∀(k:Nat) (e:aX),S.busy[k]? =some (some e)->∃s,S.slots[e.slot]? =some s/\s.name=e.name/\s.worker=k/\e.fin=s.at'+aM W e.name
 iV:∀n, -1<=S.cause n/\S.cause n<S.slots.length
 prev:∀(p:Nat) (c:Int),S.back[p]? =some c-> -1<=c/\c<p
 work:∀(p:Nat) (s:aF),S.slots[p]? =some s->s.worker<wk
theorem jQ{m:Qw}(b:dB T)(c:bD W (Qq T) n)(d:bD W (Qq T) m)(h:m≠n):bD W (Qq (doN W T n)) m:=by
 obtain⟨r,e,f⟩:=d;obtain⟨x,a,_⟩:=c;unfold doN;rw[a];simp only;rw[jJ b a];exact⟨r,jF h e,f.mono ⟨x,a, ‹_›⟩⟩
variable {wk : Nat}
open Classical in
theorem jm.done{j:Int}(h:jm W wk S)(b:bD W (Qq S.T) n)(c:¬Bz S n)(d: -1<=j/\j<S.slots.length):jm W wk (doneS W S n j) where
 ok:=h.ok.done
 len:=h.len
 diff:=h.diff
 rdy:=fun k e a=>jQ h.ok.asc b (h.rdy k e a) (fun x=>c ⟨k,e,a,x⟩)
 back:=h.back
 slot:=h.slot
 fin:=h.fin
 iV:=fun m=>by
  show -1<=(if _ then j else S.cause m)/\(if _ then j else S.cause m)<_
  split
  ·exact d
  ·exact h.iV m
 prev:=h.prev
 work:=h.work
theorem jm.free{k:Nat}{e:aX}(h:jm W wk S)(j:S.busy[k]? =some (some e)):jm W wk {S with busy:=S.busy.set k none}/\¬Bz {S with busy:=S.busy.set k none} e.name:=by
 have f:∀(c:Nat) (g:aX),(S.busy.set k none)[c]? =some (some g)->c≠k/\S.busy[c]? =some (some g):=fun c g i=>by
  rcases iF i with⟨_,x⟩|x
  ·cases x
  ·exact x
 refine⟨⟨⟨h.ok.asc,h.ok.known⟩,by show (S.busy.set k none).length=wk;rw[Qd];exact h.len,fun a b x y d l=>h.diff a b x y (f a x d).2 (f b y l).2,fun a x d=>h.rdy a x (f a x d).2,h.back,fun a x d=>h.slot a x (f a x d).2,fun a x d=>h.fin a x (f a x d).2,h.iV,h.prev,h.work⟩, ?_⟩;rintro⟨c,g,i,m⟩;obtain⟨n,p⟩:=f c g i;exact n (h.diff c k g e p j m)
theorem jm.begin{k:Nat}(h:jm W wk S)(B:S.busy[k]? =some none)(l:Of W S n):jm W wk (f_ W S t k n):=by
 have C:k<S.busy.length:=(O_.1 B).1;have g:∀(i:Nat) (j:aX),(S.busy.set k (some ⟨n,t+aM W n,S.slots.length⟩))[i]? =some (some j)->(i=k/\j= ⟨n,t+aM W n,S.slots.length⟩)\/(i≠k/\S.busy[i]? =some (some j)):=fun i j D=>by
  rcases iF D with⟨x,y⟩|x
  ·simp only[PN] at y;exact .inl ⟨x,y.symm⟩
  ·exact .inr x
 refine⟨⟨h.ok.asc,h.ok.known⟩,by show (S.busy.set k _).length=wk;rw[Qd];exact h.len, ?_, ?_,by show (S.back++_).length= (S.slots++_).length;simp[h.back], ?_, ?_, ?_, ?_, ?_⟩
 ·intro a b x y f E q;rcases g a x f with⟨rfl,rfl⟩ | ⟨H,e⟩ <;> rcases g b y E with⟨rfl,rfl⟩ | ⟨I,A⟩
  ·rfl
  ·exact Qi ⟨b,y,A,q.symm⟩ l.2
  ·exact Qi ⟨a,x,e,q⟩ l.2
  ·exact h.diff a b x y e A q
 ·intro a x f;rcases g a x f with⟨rfl,rfl⟩|⟨_,e⟩
  ·exact l.1
  ·exact h.rdy a x e
 ·intro a x f;show x.slot<(S.slots++_).length;rw[PM];rcases g a x f with⟨rfl,rfl⟩|⟨_,e⟩
  ·simp
  ·have:=h.slot a x e;omega
 ·intro a x f;rcases g a x f with⟨rfl,rfl⟩|⟨_,e⟩
  ·exact⟨⟨t,a,n⟩,by show (S.slots++_)[S.slots.length]? =_;simp,rfl,rfl,rfl⟩
  ·obtain⟨s,F,G⟩:=h.fin a x e;exact⟨s,by show (S.slots++_)[x.slot]? =_;rw[PY (h.slot a x e)];exact F,G⟩
 ·intro m;show -1<=S.cause m/\S.cause m<(((S.slots++ [_]).length:Nat):Int);have:=h.iV m;rw[PM];exact⟨this.1,by simp;omega⟩
 ·intro p c r;have d:(S.back++ [S.cause n])[p]? =some c:=r;by_cases v:p<S.back.length
  ·rw[PY v] at d;exact h.prev p c d
  ·rw[PZ (by omega)] at d;have w:=(O_.1 d).1;simp only[Qr] at w;have z:p=S.back.length:=by omega
   subst z;simp only[Nat.sub_self,P_,PN] at d;subst d;have:=h.iV n;rw[h.back];exact this
 ·intro p s r;have d:(S.slots++ [⟨t,k,n⟩])[p]? =some s:=r;by_cases v:p<S.slots.length
  ·rw[PY v] at d;exact h.work p s d
  ·rw[PZ (by omega)] at d;have w:=(O_.1 d).1;simp only[Qr] at w;have z:p-S.slots.length=0:=by omega
   rw[z] at d;simp only[P_,PN] at d;subst d;rw[<-h.len];exact C
inductive ChR (slots:List aF) (back:List Int):Int->List aF->Prop
 | stop {p:Int} (h:p<0):ChR slots back p []
 | go {p:Nat} {s:aF} {c:Int} {l:List aF} (hs:slots[p]? =some s) (hc:back[p]? =some c) (h:ChR slots back c l):ChR slots back (p:Int) (l++ [s])
theorem ChR.unique{b:List aF}{back:List Int}{p:Int}{l a:List aF}(h:ChR b back p l)(g:ChR b back p a):l=a:=by
 induction h generalizing a with
 | stop h=>
  cases g with
  | stop=>rfl
  | go=>omega
 | @go p s c l hs hc _ ih=>
  generalize e:(p:Int)=q at g;cases g with
  | stop g=>omega
  | @go p' s' c' a hs' hc' h'=>
   obtain rfl:p=p':=by omega
   rw[hs] at hs';rw[hc] at hc';simp only[PN] at hs' hc';subst hs' hc';rw[ih h']
def jW(W:aZ)(slots:List aF)(t:Int)(p:Int):Prop:=
 (p= -1/\∀s∈slots,s.at'+aM W s.name≠t)\/∃(i:Nat) (s:aF),p=i/\slots[i]? =some s/\s.at'+aM W s.name=t/\∀(j:Nat) (x:aF),j<i->slots[j]? =some x->x.at'+aM W x.name≠t
theorem jW.unique{a:List aF}{p q:Int}(h:jW W a t p)(g:jW W a t q):p=q:=by
 rcases h with⟨rfl,h⟩ | ⟨i,s,rfl,b,c,k⟩ <;> rcases g with⟨rfl,g⟩ | ⟨j,x,rfl,d,f,l⟩
 ·rfl
 ·exact Qi f (h x (Pj d))
 ·exact Qi c (g s (Pj b))
 ·rcases Qf i j with e|e|e
  ·exact Qi c (l i s e b)
  ·rw[e]
  ·exact Qi f (k j x e d)
def eU(T:List Q_)(wk:Nat):aS:=⟨T,List.replicate wk none,[],[],fun _=>-1⟩
theorem Dl(d:dB T)(f:∀n r,Qq T n=some r->(W n).isSome=true):jm W wk (eU T wk):=by
 have b:∀(k:Nat) (e:aX),(eU T wk).busy[k]?≠some (some e):=fun k e h=>by
  have a:(List.replicate wk (none:Option aX))[k]? =some (some e):=h;rw[List.getElem?_replicate] at a
  split at a <;> simp at a
 exact⟨⟨d,f⟩,by show (List.replicate wk none).length=wk;simp,fun k _ e _ h=>Qi h (b k e),fun k e h=>Qi h (b k e),rfl,fun k e h=>Qi h (b k e),fun k e h=>Qi h (b k e),fun _=>⟨Int.le_refl _,by show (-1:Int)<((([]:List aF).length:Nat):Int);decide⟩,fun p c h=>by
  have a:([]:List Int)[p]? =some c:=h;simp at a,fun p s h=>by
  have a:([]:List aF)[p]? =some s:=h;simp at a⟩
def Hm(W:aZ)(T:List Q_)(wk:Nat)(slots:List aF)(fw:Int)(T':List Q_)(chain:List aF):Prop:=
 ∃A p,si W 0 (eU T wk) fw A/\A.slots=slots/\A.T=T'/\jW W A.slots fw p/\ChR A.slots A.back p chain
theorem Hm.unique{a b:List Q_}{c d c1 e:List aF}{u1 u2:Int}(h:Hm W T wk c u1 a c1)(g:Hm W T wk d u2 b e):c=d/\u1=u2/\a=b/\c1=e:=by
 obtain⟨A,p,f,rfl,rfl,i,j⟩:=h;obtain⟨B,q,k,rfl,rfl,l,m⟩:=g;obtain⟨rfl,rfl⟩:=f.unique k;obtain rfl:=i.unique l;exact⟨rfl,rfl,rfl,j.unique m⟩
structure gM where
 at':Int
 worker:Int
 name:Qw
 fin:Int
 place:Int
 cause:Int
def gI(c d:Int)(x y:Qw):Bool:=if c=d then Op.bytesLess x.toList y.toList else decide (d<c)
def bf(x y:gM):Bool:=if x.fin=y.fin then Op.bytesLess x.name.toList y.name.toList else decide (x.fin<y.fin)
def oQ(x y:Qw):Bool:=Op.bytesLess x.toList y.toList
def ik(x y:Nat):Bool:=decide ((x:Int)<(y:Int))
theorem xS{x y z:List UInt8}(b:Op.bytesLess y x=false)(h2:Op.bytesLess z y=false):Op.bytesLess z x=false:=by
 cases e:Op.bytesLess z x
 ·rfl
 ·by_cases a:x=y
  ·subst a;rw[h2] at e;cases e
  ·cases g:Op.bytesLess x y
   ·have:=rC x y g a;rw[b] at this;cases this
   ·rw[eG z x y e g] at h2;cases h2
theorem AQ :Ahead oQ:=⟨fun _=>fO _,fun _ _ _=>eG _ _ _,fun _ _ _=>xS⟩
theorem ug :Ahead ik:=⟨fun x=>by simp[ik],fun x y z d e=>by simp only[ik,Qp] at *;omega,fun x y z d e=>by simp only[ik,Qn] at *;omega⟩
theorem Ag(c:Qw->Int):Ahead (fun x y=>gI (c x) (c y) x y):=by
 refine⟨fun x=>?_,fun x y z d e=>?_,fun x y z d e=>?_⟩
 ·simp only[gI,if_true];exact fO _
 ·simp only[gI] at *;by_cases a:c x=c y <;> by_cases b:c y=c z
  ·rw[Qg a] at d;rw[Qg b] at e;rw[Qg (a.trans b)];exact eG _ _ _ d e
  ·rw[Qh b] at e;rw[Qh (by rw[a];exact b)];simp only[Qp] at *;omega
  ·rw[Qh a] at d;rw[Qh (by rw[<-b];exact a)];simp only[Qp] at *;omega
  ·rw[Qh a] at d;rw[Qh b] at e;simp only[Qp] at d e;rw[Qh (by omega)];simp only[Qp];omega
 ·simp only[gI] at *;by_cases a:c y=c x <;> by_cases b:c z=c y
  ·rw[Qg a] at d;rw[Qg b] at e;rw[Qg (b.trans a)];exact xS d e
  ·rw[Qh b] at e;rw[Qh (by rw[<-a];exact b)];simp only[Qn] at *;omega
  ·rw[Qh a] at d;rw[Qh (by rw[b];exact a)];simp only[Qn] at *;omega
  ·rw[Qh a] at d;rw[Qh b] at e;simp only[Qn] at d e;rw[Qh (by omega)];simp only[Qn];omega
theorem AO :Ahead bf:=by
 refine⟨fun x=>?_,fun x y z c d=>?_,fun x y z c d=>?_⟩
 ·simp only[bf,if_true];exact fO _
 ·simp only[bf] at *;by_cases a:x.fin=y.fin <;> by_cases b:y.fin=z.fin
  ·rw[Qg a] at c;rw[Qg b] at d;rw[Qg (a.trans b)];exact eG _ _ _ c d
  ·rw[Qh b] at d;rw[Qh (by rw[a];exact b)];simp only[Qp] at *;omega
  ·rw[Qh a] at c;rw[Qh (by rw[<-b];exact a)];simp only[Qp] at *;omega
  ·rw[Qh a] at c;rw[Qh b] at d;simp only[Qp] at c d;rw[Qh (by omega)];simp only[Qp];omega
 ·simp only[bf] at *;by_cases a:y.fin=x.fin <;> by_cases b:z.fin=y.fin
  ·rw[Qg a] at c;rw[Qg b] at d;rw[Qg (b.trans a)];exact xS c d
  ·rw[Qh b] at d;rw[Qh (by rw[<-a];exact b)];simp only[Qn] at *;omega
  ·rw[Qh a] at c;rw[Qh (by rw[b];exact a)];simp only[Qn] at *;omega
  ·rw[Qh a] at c;rw[Qh b] at d;simp only[Qn] at c d;rw[Qh (by omega)];simp only[Qn];omega
structure iw {α:Type} (ah:α->α->Bool) (f:Nat->α) (n:Nat) (P:α->Prop):Prop where
 heap:uW ah f n
 inj:vN f n
 mem:∀x,g_ f n x↔P x
theorem iw.nil{ah:α->α->Bool}{f:Nat->α}{P:α->Prop}(h:∀x,¬P x):iw ah f 0 P:=⟨fun _i _ a=>aB a,fun _i _ a=>aB a,fun x=>⟨fun ⟨_i,a,_⟩=>aB a,fun c=>Qi c (h x)⟩⟩
theorem iw.congr{ah:α->α->Bool}{f:Nat->α}{n:Nat}{P Q:α->Prop}(h:iw ah f n P)(e:∀x,P x↔Q x):iw ah f n Q:=⟨h.heap,h.inj,fun x=>(h.mem x).trans (e x)⟩
theorem iw.put{ah:α->α->Bool}(a:Ahead ah){f:Nat->α}{n:Nat}{P:α->Prop}{x:α}(h:iw ah f n P)(b:¬P x):iw ah (ig ah f n x) (n+1) (fun y=>y=x\/P y):=by
 obtain⟨c,d,e⟩:=LH a h.heap h.inj (x:=x) (fun g=>b ((h.mem x).1 g));exact⟨c,e,fun y=>(d y).trans (or_congr Iff.rfl (h.mem y))⟩
theorem iw.take{ah:α->α->Bool}(a:Ahead ah){f:Nat->α}{n:Nat}{P:α->Prop}(h:iw ah f (n+1) P):iw ah (eZ ah f n) n (fun y=>P y/\y≠f 0)/\P (f 0)/\∀y,P y->ah y (f 0)=false:=by
 obtain⟨b,c,d⟩:=Jh a h.heap h.inj;refine⟨⟨b,d,fun y=>(c y).trans (and_congr (h.mem y) Iff.rfl)⟩,(h.mem _).1 ⟨0,Nat.succ_pos _,rfl⟩,fun y e=>?_⟩;obtain⟨i,g,rfl⟩:=(h.mem y).2 e;exact FM a h.heap i g
theorem iw.empty{ah:α->α->Bool}{f:Nat->α}{P:α->Prop}(h:iw ah f 0 P):∀x,¬P x:=fun x b=>by
 obtain⟨i,c,_⟩:=(h.mem x).2 b;exact aB c
theorem zQ{P:Qw->Prop}(b:P n)(h:∀m,P m->oQ m n=false):nH P aH n:=⟨b,fun m d e=>by
 rcases b_ n m with g|g|g
 ·exact g
 ·exact Qi g.symm e
 ·have:=h m d;unfold oQ at this;unfold aH at g;rw[this] at g;cases g⟩
theorem zm{P:Qw->Prop}(c:P n)(h:∀m,P m->gI (aM W m) (aM W n) m n=false):nH P (qH W) n:=⟨c,fun m e f=>by
 have:=h m e;unfold gI at this;by_cases b:aM W m=aM W n
 ·rw[Qg b] at this;refine .inr ⟨b.symm, ?_⟩;rcases b_ n m with g|g|g
  ·exact g
  ·exact Qi g.symm f
  ·unfold aH at g;rw[this] at g;cases g
 ·rw[Qh b] at this;simp only[Qn] at this;exact .inl (by omega)⟩
def iR(W:aZ)(slots:List aF)(back:List Int)(p:Nat):gM:=match slots[p]?,back[p]? with
 | some s,some c=>⟨s.at',s.worker,s.name,s.at'+aM W s.name,p,c⟩
 | _,_=>⟨0,0,ByteArray.empty,0,p,0⟩
def BzE(W:aZ)(S:aS)(e:gM):Prop:=∃(k:Nat) (x:aX),S.busy[k]? =some (some x)/\e=iR W S.slots S.back x.slot
theorem jm.eff(h:jm W wk S){k:Nat}{x:aX}(a:S.busy[k]? =some (some x)):∃(t c:Int),iR W S.slots S.back x.slot= ⟨t,k,x.name,x.fin,x.slot,c⟩:=by
 obtain⟨s,b,d,e,f⟩:=h.fin k x a;have g:=h.slot k x a;have i:x.slot<S.back.length:=by rw[h.back];exact g
 refine⟨s.at',S.back[x.slot], ?_⟩;unfold iR;rw[b,OZ i];simp only;rw[e,d,f]
structure eH (W:aZ) (wk:Nat) (S:aS) (Q:Qw->Prop) (g:Qw->Option Int) (es:Nat->gM) (oF:Nat->Qw) (on:Nat) (sF:Nat->Qw) (sn:Nat) (eF:Nat->gM) (en:Nat) (fF:Nat->Nat) (fn:Nat):Prop where
 bP:jm W wk S
 gy:∀n,Q n->g n=some (S.cause n)
 gn:∀n,¬Q n->g n=none
 q:∀n,Q n->bD W (Qq S.T) n
 bq:∀n,Bz S n->Q n/\¬Sp W S n
 off:iw (fun x y=>gI (aM W x) (aM W y) x y) oF on (fun n=>Q n/\¬Bz S n/\¬Sp W S n)
 spt:iw oQ sF sn (fun n=>Q n/\Sp W S n)
 ends:iw bf eF en (BzE W S)
 free:iw ik fF fn (fun k=>S.busy[k]? =some none)
 vZ:∀p,p<S.slots.length->es p=iR W S.slots S.back p
def BG(g:Qw->Option Int)(n:Qw)(m:Qw):Option Int:=if m=n then none else g m
def Bp(g:Qw->Option Int)(n:Qw)(j:Int)(m:Qw):Option Int:=if m=n then some j else g m
def Rdy(W:aZ)(S:aS)(n:Qw):Prop:=bD W (Qq S.T) n
theorem Sp.ready(h:Sp W S n):Rdy W S n:=let ⟨r,h1,h2,_⟩:=h;⟨r,h1,h2⟩
section
variable {W : aZ} {wk : Nat} {S : aS} {Q Q' : Qw -> Prop} {g : Qw -> Option Int} {es : Nat -> gM} {oF : Nat -> Qw} {on : Nat} {sF : Nat -> Qw} {sn : Nat} {eF : Nat -> gM} {en : Nat} {fF : Nat -> Nat} {fn : Nat}
theorem eH.congr(h:eH W wk S Q g es oF on sF sn eF en fF fn)(e:∀n,Q n↔Q' n):eH W wk S Q' g es oF on sF sn eF en fF fn:=
 ⟨h.bP,fun n b=>h.gy n ((e n).2 b),fun n b=>h.gn n (fun x=>b ((e n).1 x)),fun n b=>h.q n ((e n).2 b),fun n b=>⟨(e n).1 (h.bq n b).1,(h.bq n b).2⟩,h.off.congr fun n=>and_congr_left' (e n),h.spt.congr fun n=>and_congr_left' (e n),h.ends,h.free,h.vZ⟩
theorem eH.start(c:jm W wk (eU T wk))(d:iw ik fF wk (fun k=>k<wk)):eH W wk (eU T wk) (fun _=>False) (fun _=>none) es oF 0 sF 0 eF 0 fF wk:=by
 have b:∀(k:Nat) (e:aX),(eU T wk).busy[k]?≠some (some e):=fun k e h=>by
  have a:(List.replicate wk (none:Option aX))[k]? =some (some e):=h;rw[List.getElem?_replicate] at a
  split at a <;> simp at a
 refine⟨c,fun _ h=>h.elim,fun _ _=>rfl,fun _ h=>h.elim,fun n ⟨k,e,h,_⟩=>Qi h (b k e),.nil fun _ h=>h.1,.nil fun _ h=>h.1,.nil fun _ ⟨k,e,h,_⟩=>b k e h,d.congr fun k=>?_,fun p f=>aB f⟩;show _↔(List.replicate wk (none:Option aX))[k]? =some none;rw[List.getElem?_replicate];by_cases h:k<wk
 ·simp[h]
 ·simp[h]
theorem eH.LZ(h:eH W wk S Q g es oF on sF sn eF en fF fn)(b:Sp W S n)(f:¬Q n):eH W wk S (fun m=>m=n\/Q m) (Bp g n (S.cause n)) es oF on (ig oQ sF sn n) (sn+1) eF en fF fn:=by
 refine⟨h.bP,fun m a=>?_,fun m a=>?_,fun m a=>?_,fun m a=>⟨.inr (h.bq m a).1,(h.bq m a).2⟩,h.off.congr fun m=>⟨fun x=>⟨.inr x.1,x.2⟩,fun x=>⟨?_,x.2⟩⟩, ?_,h.ends,h.free,h.vZ⟩
 ·unfold Bp;by_cases e:m=n
  ·rw[Qg e,e]
  ·rw[Qh e];exact h.gy m (a.resolve_left e)
 ·unfold Bp;rw[Qh (fun e=>a (.inl e))];exact h.gn m (fun x=>a (.inr x))
 ·rcases a with rfl|a
  ·exact b.ready
  ·exact h.q m a
 ·rcases x.1 with e|e
  ·subst e;exact Qi b x.2.2
  ·exact e
 ·refine (h.spt.put AQ (x:=n) (fun x=>f x.1)).congr fun m=>⟨?_, ?_⟩
  ·rintro (rfl|⟨c,d⟩)
   ·exact⟨.inl rfl,b⟩
   ·exact⟨.inr c,d⟩
  ·rintro⟨rfl|c,d⟩
   ·exact .inl rfl
   ·exact .inr ⟨c,d⟩
theorem eH.Mo(h:eH W wk S Q g es oF on sF sn eF en fF fn)(i:Rdy W S n)(d:¬Sp W S n)(f:¬Q n):eH W wk S (fun m=>m=n\/Q m) (Bp g n (S.cause n)) es (ig (fun x y=>gI (aM W x) (aM W y) x y) oF on n) (on+1) sF sn eF en fF fn:=by
 refine⟨h.bP,fun m a=>?_,fun m a=>?_,fun m a=>?_,fun m a=>⟨.inr (h.bq m a).1,(h.bq m a).2⟩, ?_,h.spt.congr fun m=>⟨fun x=>⟨.inr x.1,x.2⟩,fun x=>⟨?_,x.2⟩⟩,h.ends,h.free,h.vZ⟩
 ·unfold Bp;by_cases e:m=n
  ·rw[Qg e,e]
  ·rw[Qh e];exact h.gy m (a.resolve_left e)
 ·unfold Bp;rw[Qh (fun e=>a (.inl e))];exact h.gn m (fun x=>a (.inr x))
 ·rcases a with rfl|a
  ·exact i
  ·exact h.q m a
 ·refine (h.off.put (Ag _) (x:=n) (fun x=>f x.1)).congr fun m=>⟨?_, ?_⟩
  ·rintro (rfl|⟨b,c⟩)
   ·exact⟨.inl rfl,fun j=>f (h.bq m j).1,d⟩
   ·exact⟨.inr b,c⟩
  ·rintro⟨rfl|b,c⟩
   ·exact .inl rfl
   ·exact .inr ⟨b,c⟩
 ·rcases x.1 with e|e
  ·subst e;exact Qi x.2 d
  ·exact e
theorem GZ(h:eH W wk S (Rdy W S) g es oF on sF sn eF en fF fn)(n:Qw):(∀m,Rdy W S m/\m≠n->BG g n m=some (S.cause m))/\∀m,¬(Rdy W S m/\m≠n)->BG g n m=none:=by
 constructor
 ·rintro m ⟨b,c⟩;unfold BG;rw[Qh c];exact h.gy m b
 ·intro m d;unfold BG
  split
  ·rfl
  ·next e=>exact h.gn m (fun x=>d ⟨x,e⟩)
theorem eH.LQ(h:eH W wk S (Rdy W S) g es oF on sF sn eF (en+1) fF fn):∃(k:Nat) (x:aX),S.busy[k]? =some (some x)/\eF 0=iR W S.slots S.back x.slot/\(eF 0).name=x.name/\(eF 0).fin=x.fin/\(eF 0).worker=k/\(eF 0).place=x.slot/\(∀(a:Nat) (b:aX),S.busy[a]? =some (some b)->x.fin<=b.fin)/\
  (∀(a:Nat) (b:aX),a≠k->S.busy[a]? =some (some b)->b.fin=x.fin->aH x.name b.name)/\
  eH W wk {S with busy:=S.busy.set k none} (fun n=>Rdy W S n/\n≠x.name) (BG g x.name) es oF on sF sn (eZ bf eF en) en (ig ik fF fn k) (fn+1)/\Rdy W S x.name/\¬Bz {S with busy:=S.busy.set k none} x.name:=by
 obtain⟨D,⟨k,x,j,s⟩,E⟩:=h.ends.take AO;obtain⟨F,G,H⟩:=h.bP.eff j;have p:eF 0= ⟨F,k,x.name,x.fin,x.slot,G⟩:=s.trans H;have I:k<S.busy.length:=(O_.1 j).1;obtain⟨J,w⟩:=h.bP.free j;have r:∀(a:Nat) (f:aX),(S.busy.set k none)[a]? =some (some f)↔a≠k/\S.busy[a]? =some (some f):=fun a f=>by
  constructor
  ·intro l;rcases iF l with⟨_,x⟩|x
   ·cases x
   ·exact x
  ·rintro⟨d,c⟩;rw[Pp (fun e=>d e.symm)];exact c
 have t:∀n,n≠x.name->(Bz {S with busy:=S.busy.set k none} n↔Bz S n):=fun n q=>by
  constructor
  ·rintro⟨a,f,d,c⟩;exact⟨a,f,((r a f).1 d).2,c⟩
  ·rintro⟨a,f,d,c⟩;refine⟨a,f,(r a f).2 ⟨fun e=>?_,d⟩,c⟩;subst e;rw[j] at d;cases d;exact q c.symm
 have z:=h.bq x.name ⟨k,x,j,rfl⟩;have first:∀(a:Nat) (b:aX),S.busy[a]? =some (some b)->x.fin<=b.fin/\(a≠k->b.fin=x.fin->aH x.name b.name):=fun a b l=>by
  obtain⟨K,L,f⟩:=h.bP.eff l;have:=E _ ⟨a,b,l,rfl⟩;rw[f,p] at this;unfold bf at this;simp only at this;by_cases v:b.fin=x.fin
  ·rw[Qg v] at this;refine⟨by omega,fun i _=>?_⟩;rcases b_ x.name b.name with y | y | y
   ·exact y
   ·exact Qi (h.bP.diff a k b x l j y.symm) i
   ·unfold aH at y;rw[this] at y;cases y
  ·rw[Qh v] at this;simp only[Qn] at this;exact⟨by omega,fun _ e=>Qi e v⟩
 obtain⟨M,N⟩:=GZ h x.name;refine⟨k,x,j,s,by rw[p],by rw[p],by rw[p],by rw[p],fun a b l=>(first a b l).1,fun a b i l=>(first a b l).2 i,⟨J,M,N,fun n q=>q.1,fun n q=>?_,h.off.congr fun n=>?_,h.spt.congr fun n=>?_,D.congr fun e=>?_, ?_,h.vZ⟩,z.1,w⟩
 ·have i:n≠x.name:=fun e=>w (by rw[<-e];exact q)
  have:=h.bq n ((t n i).1 q);exact⟨⟨this.1,i⟩,this.2⟩
 ·constructor
  ·rintro⟨d,c,m⟩;have i:n≠x.name:=fun e=>c (by rw[e];exact⟨k,x,j,rfl⟩)
   exact⟨⟨d,i⟩,fun y=>c ((t n i).1 y),m⟩
  ·rintro⟨⟨d,i⟩,c,m⟩;exact⟨d,fun y=>c ((t n i).2 y),m⟩
 ·constructor
  ·rintro⟨d,c⟩;exact⟨⟨d,fun e=>z.2 (by rw[<-e];exact c)⟩,c⟩
  ·rintro⟨⟨d,_⟩,c⟩;exact⟨d,c⟩
 ·constructor
  ·rintro⟨⟨a,b,d,c⟩,m⟩;refine⟨a,b,(r a b).2 ⟨fun e=>?_,d⟩,c⟩;subst e;rw[j] at d;cases d;exact m (c.trans s.symm)
  ·rintro⟨a,b,d,c⟩;obtain⟨m,A⟩:=(r a b).1 d;refine⟨⟨a,b,A,c⟩,fun e=>m ?_⟩;obtain⟨K,L,f⟩:=h.bP.eff A;have B:iR W S.slots S.back b.slot=eF 0:=c.symm.trans e;rw[f,p] at B;injection B with _ O;exact Int.ofNat.inj O
 ·refine (h.free.put ug (x:=k) (fun y=>by rw[j] at y;cases y)).congr fun C=>?_
  show _↔(S.busy.set k none)[C]? =some none;by_cases e:C=k
  ·subst e;rw[Qe I];simp
  ·rw[Pp (fun y=>e y.symm)];simp[e]
theorem eH.done{j:Int}(h:eH W wk S (fun m=>Rdy W S m/\m≠n) g es oF on sF sn eF en fF fn)(f:Rdy W S n)(t:¬Bz S n)(v: -1<=j/\j<S.slots.length):
  eH W wk (doneS W S n j) (fun m=>Rdy W S m/\m≠n) g es oF on sF sn eF en fF fn/\∀m,Rdy W (doneS W S n j) m->¬(Rdy W S m/\m≠n)->(doneS W S n j).cause m=j:=by
 have w:∀m,Rdy W S m/\m≠n->(doneS W S n j).cause m=S.cause m:=fun m ⟨a,c⟩=>Qh (fun x=>x.2.elim c (fun y=>y a))
 have e:∀m,Rdy W S m/\m≠n->(Sp W (doneS W S n j) m↔Sp W S m):=fun m ⟨⟨r,a,c⟩,l⟩=>by
  obtain⟨B,p,z⟩:=jQ h.bP.ok.asc f ⟨r,a,c⟩ l;have d:Qq (doN W S.T n) m=some r:=by
   obtain⟨x,q,_⟩:=f;unfold doN;rw[q];simp only;rw[jJ h.bP.ok.asc q];exact jF l a
  rw[d] at p;cases p;constructor
  ·rintro⟨y,i,A,k⟩;have s:Qq (doN W S.T n) m=some y:=i;rw[d] at s;cases s;exact⟨r,a,c,k⟩
  ·rintro⟨y,i,A,k⟩;rw[a] at i;cases i;exact⟨r,d,z,k⟩
 refine⟨⟨h.bP.done f t v,fun m b=>(h.gy m b).trans (congrArg some (w m b).symm),h.gn,fun m b=>jQ h.bP.ok.asc f b.1 b.2,fun m b=>?_,h.off.congr fun m=>?_,h.spt.congr fun m=>?_,h.ends,h.free,h.vZ⟩,fun m a c=>?_⟩
 ·have:=h.bq m b;exact⟨this.1,fun y=>this.2 ((e m this.1).1 y)⟩
 ·exact⟨fun x=>⟨x.1,x.2.1,fun y=>x.2.2 ((e m x.1).1 y)⟩,fun x=>⟨x.1,x.2.1,fun y=>x.2.2 ((e m x.1).2 y)⟩⟩
 ·exact⟨fun x=>⟨x.1,(e m x.1).2 x.2⟩,fun x=>⟨x.1,(e m x.1).1 x.2⟩⟩
 ·refine Qg ⟨a, ?_⟩;by_cases d:m=n
  ·exact .inl d
  ·exact .inr fun y=>c ⟨y,d⟩
theorem eH.JL(h:eH W wk S (Rdy W S) g es oF on sF (sn+1) eF en fF fn):nH (Sp W S) aH (sF 0)/\g (sF 0)=some (S.cause (sF 0))/\Rdy W S (sF 0)/\¬Bz S (sF 0)/\eH W wk S (fun m=>Rdy W S m/\m≠sF 0) (BG g (sF 0)) es oF on (eZ oQ sF sn) sn eF en fF fn:=by
 obtain⟨d,⟨c,b⟩,f⟩:=h.spt.take AQ;obtain⟨i,j⟩:=GZ h (sF 0);refine⟨zQ b fun m a=>f m ⟨a.ready,a⟩,h.gy _ c,c,fun k=>(h.bq _ k).2 b,h.bP,i,j,fun m a=>a.1,fun m a=>⟨⟨(h.bq m a).1,fun e=>(h.bq m a).2 (by rw[e];exact b)⟩,(h.bq m a).2⟩,h.off.congr fun m=>⟨fun x=>⟨⟨x.1,fun e=>x.2.2 (by rw[e];exact b)⟩,x.2⟩,fun x=>⟨x.1.1,x.2⟩⟩,d.congr fun m=>⟨fun x=>⟨⟨x.1.1,x.2⟩,x.1.2⟩,fun x=>⟨⟨x.1.1,x.2⟩,x.1.2⟩⟩,h.ends,h.free,h.vZ⟩
theorem eH.JI(h:eH W wk S (Rdy W S) g es oF on sF 0 eF en fF fn):∀n,¬Sp W S n:=fun n a=>h.spt.empty n ⟨a.ready,a⟩
theorem eH.idle(h:eH W wk S Q g es oF on sF sn eF 0 fF fn):lg S:=fun k e d=>h.ends.empty _ ⟨k,e,d,rfl⟩
theorem eH.begin(h:eH W wk S (Rdy W S) g es oF (on+1) sF sn eF en fF (fn+1))(B:∀n,¬Sp W S n):S.busy[fF 0]? =some none/\(∀a,a<fF 0->S.busy[a]?≠some none)/\nH (Of W S) (qH W) (oF 0)/\g (oF 0)=some (S.cause (oF 0))/\
  eH W wk (f_ W S t (fF 0) (oF 0)) (Rdy W S) g (fun p=>if p=S.slots.length then ⟨t,(fF 0:Nat),oF 0,t+aM W (oF 0),S.slots.length,S.cause (oF 0)⟩ else es p) (eZ (fun x y=>gI (aM W x) (aM W y) x y) oF on) on sF sn (ig bf eF en ⟨t,(fF 0:Nat),oF 0,t+aM W (oF 0),S.slots.length,S.cause (oF 0)⟩) (en+1) (eZ ik fF fn) fn:=by
 obtain⟨F,⟨v,G,O⟩,H⟩:=h.off.take (Ag _);obtain⟨I,r,J⟩:=h.free.take ug;have C:fF 0<S.busy.length:=(O_.1 r).1;generalize oF 0=n at *;generalize P:fF 0=k at *;have D:Of W S n:=⟨v,G⟩;have K:S.back.length=S.slots.length:=h.bP.back;have w:∀p,p<S.slots.length->iR W (f_ W S t k n).slots (f_ W S t k n).back p=iR W S.slots S.back p:=fun p z=>by
  show iR W (S.slots++_) (S.back++_) p=_;unfold iR;rw[PY z,PY (by omega)]
 have A:iR W (f_ W S t k n).slots (f_ W S t k n).back S.slots.length= ⟨t,(k:Nat),n,t+aM W n,S.slots.length,S.cause n⟩:=by
  show iR W (S.slots++_) (S.back++_) _=_;unfold iR;rw[PZ (OU _),PZ (by omega)];simp[K]
 have j:∀(a:Nat) (d:aX),(f_ W S t k n).busy[a]? =some (some d)↔(a=k/\d= ⟨n,t+aM W n,S.slots.length⟩)\/S.busy[a]? =some (some d):=fun a d=>by
  show (S.busy.set k _)[a]? =_↔_;by_cases e:a=k
  ·subst e;rw[Qe C,r];simp[eq_comm]
  ·rw[Pp (fun y=>e y.symm)];simp[e]
 have s:∀m,Bz (f_ W S t k n) m↔m=n\/Bz S m:=fun m=>by
  constructor
  ·rintro⟨a,d,c,b⟩;rcases (j a d).1 c with⟨_,rfl⟩|i
   ·exact .inl b.symm
   ·exact .inr ⟨a,d,i,b⟩
  ·rintro (rfl|⟨a,d,c,b⟩)
   ·exact⟨k,_,(j k _).2 (.inl ⟨rfl,rfl⟩),rfl⟩
   ·exact⟨a,d,(j a d).2 (.inr c),b⟩
 refine⟨r,fun a Q L=>?_,zm D fun m l=>H m ⟨l.1,l.2,B m⟩,h.gy n v,h.bP.begin r D,h.gy,h.gn,h.q,fun m l=>?_,F.congr fun m=>?_,h.spt, ?_,I.congr fun E=>?_,fun p z=>?_⟩
 ·have:=J a L;unfold ik at this;simp only[Qn] at this;omega
 ·rcases (s m).1 l with rfl|l
  ·exact⟨v,B m⟩
  ·exact h.bq m l
 ·constructor
  ·rintro⟨⟨c,b,i⟩,M⟩;exact⟨c,fun y=>((s m).1 y).elim M b,i⟩
  ·rintro⟨c,b,i⟩;exact⟨⟨c,fun y=>b ((s m).2 (.inr y)),i⟩,fun e=>b ((s m).2 (.inl e))⟩
 ·refine (h.ends.put AO (x:=⟨t,(k:Nat),n,t+aM W n,S.slots.length,S.cause n⟩) ?_).congr fun e=>?_
  ·rintro⟨a,f,c,b⟩;obtain⟨R,T,d⟩:=h.bP.eff c;rw[d] at b;have:=h.bP.slot a f c;injection b with _ _ _ _ U;omega
  ·constructor
   ·rintro (rfl|⟨a,f,c,b⟩)
    ·exact⟨k,_,(j k _).2 (.inl ⟨rfl,rfl⟩),A.symm⟩
    ·exact⟨a,f,(j a f).2 (.inr c),b.trans (w _ (h.bP.slot a f c)).symm⟩
   ·rintro⟨a,f,c,b⟩;rcases (j a f).1 c with⟨_,rfl⟩|i
    ·exact .inl (b.trans A)
    ·exact .inr ⟨a,f,i,b.trans (w _ (h.bP.slot a f i))⟩
 ·show _↔(S.busy.set k _)[E]? =some none;by_cases e:E=k
  ·subst e;rw[Qe C];simp
  ·rw[Pp (fun y=>e y.symm)];simp[e]
 ·have N:p<(S.slots++ [_]).length:=z;rw[PM,Qr] at N;by_cases e:p=S.slots.length
  ·simp only[Qg e];rw[e];exact A.symm
  ·simp only[Qh e];rw[w p (by omega)];exact h.vZ p (by omega)
end
section
variable {Kq : List Qz} {Gl σ0 σs σ : Env} {ns : List Qw} {i : Nat} {b : Bool}
end
