import Derived.Test.YtppbfddlkfglgaaGreatDoorKXWantZ
import Derived.Deep.WholeRow
set_option maxRecDepth 100000
set_option maxHeartbeats 25600000
namespace Go.Proofs.YtppbfddlkfglgaaGreatDoor
open Go.Proofs.Tryz
variable {n:QV}{k:Nat}
section
variable {W:bf}
theorem DI{σ τ :Env}(h:dx (aT W) (doX W) σ τ k){r:Q_}(a:σ n=some r)(b:r.over=true): τ n=some r:=by
 induction h with
 |here s=>exact a
 |step s t i k hi _ ih=>
  refine ih ?_;by_cases e:n=i
  .subst e;obtain⟨f,c,d⟩:=hi;rw[a] at c;cases c;rw[d.1] at b;cases b
  .exact fD e a
theorem yl{σ τ :Env}(h:dx (aT W) (doX W) σ τ k)(b:WfX W σ){r:Q_}(a:σ n=some r):∃q, τ n=some q/\r.Zq<=q.Zq:=by
 induction h generalizing r with
 |here s=>exact⟨r,a,Int.le_refl _⟩
 |step s t i k hi _ ih=>
  have c:=ze b hi;by_cases e:n=i
  .subst e;obtain⟨m,d,j⟩:=hi;rw[a] at d;cases d;obtain⟨q,l,p⟩:=ih c (iT a);have f:=b n r a;refine⟨q,l,?_⟩;rcases f_ j (by rw[f.name];exact f.web) with e|⟨e1,e,_⟩<;>omega
  .exact ih c (fD e a)
theorem Km{τ :Env}:∀{j:Nat}{σ:Env},WfX W σ->dx (aT W) (doX W) σ τ j->dx (Behind (W:=W) xh τ) (doX W) σ τ j:=by
 intro j
 induction j with
 |zero=>intro σ _ h;cases h;exact .here _
 |succ j ih=>
  intro σ c h;cases h with
  |step _ _ n _ hn hr=>
   have d:=ze c hn;have k:Behind (W:=W) xh τ σ n:=by
    obtain⟨r,a,f⟩:=hn;have i:=c n r a;obtain⟨q,b,m⟩:=yl hr d (iT a);refine⟨⟨r,a,f⟩,r,q,a,b,?_⟩;rcases f_ f (by rw[i.name];exact i.web) with e|⟨e1,e2,e3⟩
    .exact .inl A7
    .have l:=DI hr (iT a) e3;rw[l] at b;cases b;exact .inr ⟨e1.trans e2.symm,e3,A7⟩
   exact .step _ _ n _ k (ih d hr)
end
theorem IY{Kq:List Qz}{Kj:List QV}{L:List Q_}(e:bC Kq 0)(f:fJ Kj)(a:fU Kq L)(i:WfX (Kk Kq) (Qq (b_ Kq Kj)))(j:dx (aT (Kk Kq)) (doX (Kk Kq)) (Qq (b_ Kq Kj)) (Qq L) k):jO Kq Kj L:=by
 refine⟨e,f,a.len,k,L,a,Km i j,λp l=>?_,rfl⟩;obtain⟨⟨r,b,m⟩,q,g,c,d,n⟩:=l;rw[b] at c;cases c;rw[b] at d;cases d;rcases n with h|⟨_,h,_⟩
 .omega
 .rw[m.1] at h;cases h
theorem Nv{W:bf}{S:bP}{m:QV}{j:Int}(d:d_ S.T)(f:Rdy W S n)(q:Rdy W S m)(h:m≠n):Sp W (doneS W S n j) m↔Sp W S m:=by
 obtain⟨r,a,i⟩:=q;obtain⟨v,k,s⟩:=mK d f ⟨r,a,i⟩ h;have e:Qq (doN W S.T n) m=some r:=by
  obtain⟨x,l,_⟩:=f;unfold doN;rw[l];simp only;rw[jT d l];exact fD h a
 rw[e] at k;cases k;constructor
 .rintro⟨y,b,t,c⟩;have p:Qq (doN W S.T n) m=some y:=b;rw[e] at p;cases p;exact⟨r,a,i,c⟩
 .rintro⟨y,b,t,c⟩;rw[a] at b;cases b;exact⟨r,e,s,c⟩
structure cZ (Kq:List Qz)(wk:Nat)(S:bP):Prop where
 bT:kN (Kk Kq) wk S
 good:fU Kq S.T
 nsp:∀n,Bz S n->¬Sp (Kk Kq) S n
variable {t:Int}
section
variable {Kq:List Qz}{wk:Nat}{S A:bP}
theorem cZ.done(p:aX (Kk Kq))(h:cZ Kq wk S){j:Int}(a:Rdy (Kk Kq) S n)(c:¬Bz S n)(q: -1<=j/\j<S.slots.length):cZ Kq wk (doneS (Kk Kq) S n j)/\dx (aT (Kk Kq)) (doX (Kk Kq)) (Qq S.T) (Qq (doneS (Kk Kq) S n j).T) 1:=by
 have r:=h.bT.done a c q;refine⟨⟨r,?_,λm d=>?_⟩,?_⟩
 .show fU Kq (doN (Kk Kq) S.T n);obtain⟨s,b,f⟩:=a;unfold doN;rw[b];exact LB p h.good (bA b).1 f
 .have t:m≠n:=λe=>c (by rw[<-e];exact d)
  obtain⟨k,e,i,l⟩:=d;intro v;exact h.nsp m ⟨k,e,i,l⟩ ((Nv h.bT.ok.asc a (by rw[<-l];exact h.bT.rdy k e i) t).1 v)
 .have w:=a;obtain⟨s,b,f⟩:=a;show dx _ _ _ (Qq (doN (Kk Kq) S.T n)) 1;unfold doN;rw[b];simp only;rw[jT h.bT.ok.asc b];exact .one w
theorem cZ.free(h:cZ Kq wk S){e:di}(a:S.busy[k]? =some (some e)):cZ Kq wk {S with busy:=S.busy.set k none}/\Rdy (Kk Kq) {S with busy:=S.busy.set k none} e.name/\¬Bz {S with busy:=S.busy.set k none} e.name:=by
 obtain⟨b,c⟩:=h.bT.free a;refine⟨⟨b,h.good,λn d=>?_⟩,h.bT.rdy k e a,c⟩;obtain⟨f,i,j,l⟩:=d;rcases ib j with⟨_,x⟩|⟨_,x⟩
 .cases x
 .exact h.nsp n ⟨f,i,x,l⟩
theorem ng.live(b:aX (Kk Kq))(h:ng (Kk Kq) t S A):cZ Kq wk S->cZ Kq wk A/\∃j,dx (aT (Kk Kq)) (doX (Kk Kq)) (Qq S.T) (Qq A.T) j:=by
 induction h with
 |stop=>exact λa=>⟨a,0,.here _⟩
 |@go S S' k e hk he _ _ ih=>
  intro a;obtain⟨c,d,f⟩:=a.free hk;obtain⟨i,l⟩:=c.done b d f (j:=e.slot) ⟨A7,by have:=a.bT.slot k e hk;show ((e.slot:Nat):Int)<((S.slots.length:Nat):Int);omega⟩;obtain⟨m,j,n⟩:=ih i;exact⟨m,_,l.trans n⟩
theorem oO.live(b:aX (Kk Kq))(h:oO (Kk Kq) S A):cZ Kq wk S->cZ Kq wk A/\∃j,dx (aT (Kk Kq)) (doX (Kk Kq)) (Qq S.T) (Qq A.T) j:=by
 induction h with
 |stop=>exact λa=>⟨a,0,.here _⟩
 |@go S S' n hn _ ih=>
  intro a;obtain⟨c,d⟩:=a.done b hn.1.ready (λe=>a.nsp n e hn.1) (a.bT.jb n);obtain⟨f,j,i⟩:=ih c;exact⟨f,_,d.trans i⟩
theorem cZ.begin(h:cZ Kq wk S)(b:S.busy[k]? =some none)(c:Of (Kk Kq) S n)(d:∀n,¬Sp (Kk Kq) S n):cZ Kq wk (iw (Kk Kq) S t k n):=⟨h.bT.begin b c,h.good,λm _ f=>d m f⟩
theorem nD.live(h:nD (Kk Kq) t S A):(∀n,¬Sp (Kk Kq) S n)->cZ Kq wk S->cZ Kq wk A/\A.T=S.T:=by
 induction h with
 |stop=>exact λ_ a=>⟨a,rfl⟩
 |go hk _ hn _ ih=>exact λb a=>ih b (a.begin hk hn.1 b)
theorem mM.live(a:aX (Kk Kq))(h:mM (Kk Kq) t S A)(c:cZ Kq wk S):cZ Kq wk A/\∃j,dx (aT (Kk Kq)) (doX (Kk Kq)) (Qq S.T) (Qq A.T) j:=by
 obtain⟨p,q,d,b,e⟩:=h;obtain⟨f,r,i⟩:=d.live a c;obtain⟨k,s,l⟩:=b.live a f;obtain⟨m,n⟩:=e.live b.busy.2 k;exact⟨m,_,by rw[n];exact i.trans l⟩
theorem rX.live(b:aX (Kk Kq)){u:Int}(h:rX (Kk Kq) t S u A):cZ Kq wk S->cZ Kq wk A/\∃j,dx (aT (Kk Kq)) (doX (Kk Kq)) (Qq S.T) (Qq A.T) j:=by
 induction h with
 |last h _=>exact λa=>h.live b a
 |next h _ _ _ ih=>
  intro a;obtain⟨c,i,d⟩:=h.live b a;obtain⟨e,k,f⟩:=ih c;exact⟨e,_,d.trans f⟩
end
theorem jk{Kq:List Qz}{wk:Nat}{T:List Q_}(a:fU Kq T):cZ Kq wk (iR T wk):=by
 refine⟨Ev a.asc λn r f=>(a.wf n r f).web,a,λn ⟨k,e,h,_⟩=>?_⟩;have b:(List.replicate wk (none:Option di))[k]? =some (some e):=h;rw[List.getElem?_replicate] at b
 split at b<;>simp at b
def iH(W:bf)(l:List aU):Int:=(l.map λs=>aR W s.name).sum
theorem qO(W:bf)(l:List aU)(s:aU):iH W (l++[s])=iH W l+aR W s.name:=by simp[iH]
theorem tQ(W:bf)(n:QV):aR W n=iE W n:=by unfold aR iE;cases W n<;>rfl
def iL(t:Int):List (Option di)->Int
 |[]=>0
 |none :: l=>iL t l
 |some e :: l=>e.fin-t+iL t l
def kM(W:bf):List (Option di)->Int
 |[]=>0
 |none :: l=>kM W l
 |some e :: l=>aR W e.name+kM W l
def oL :List (Option di)->Nat
 |[]=>0
 |none :: l=>oL l
 |some _ :: l=>oL l+1
section
variable {W:bf}{t u:Int}
theorem Kn :∀{b:List (Option di)}{k:Nat}{e:di},b[k]? =some (some e)->iL t (b.set k none)=iL t b-(e.fin-t)/\kM W (b.set k none)=kM W b-aR W e.name/\1<=oL b
 |x :: b,0,e,h=>by
  simp only[QA,Ql] at h;subst h;simp only[List.set_cons_zero,iL,kM,oL];omega
 |x :: b,k+1,e,h=>by
  have:=Kn (b:=b) (k:=k) (e:=e) (by simpa using h);cases x<;>simp only[Qw,iL,kM,oL]<;>omega
theorem take8 :∀{b:List (Option di)}{k:Nat}(e:di),b[k]? =some none->iL t (b.set k (some e))=iL t b+(e.fin-t)/\kM W (b.set k (some e))=kM W b+aR W e.name
 |x :: b,0,e,h=>by
  simp only[QA,Ql] at h;subst h;simp only[List.set_cons_zero,iL,kM];omega
 |x :: b,k+1,e,h=>by
  have:=take8 (b:=b) (k:=k) e (by simpa using h);cases x<;>simp only[Qw,iL,kM]<;>omega
theorem Fv :∀(b:List (Option di)),iL u b=iL t b-(u-t)*oL b/\oL b<=b.length
 |[]=>by simp[iL,oL]
 |none :: b=>by have:=Fv b;simp only[iL,oL,Qn];omega
 |some e :: b=>by
  have:=Fv b;simp only[iL,oL,Qn];have a:(u-t)*((oL b+1:Nat):Int)= (u-t)*(oL b:Int)+(u-t):=by rw[Int.natCast_add,Int.mul_add];simp
  omega
theorem KM :∀{b:List (Option di)},(∀(k:Nat)(e:di),b[k]?≠some (some e))->iL t b=0/\kM W b=0
 |[],_=>⟨rfl,rfl⟩
 |none :: b,h=>KM (b:=b) λk e a=>h (k+1) e (by simpa using a)
 |some e :: b,h=>QK rfl (h 0 e)
theorem NK :∀{b:List (Option di)},(∀k:Nat,b[k]?≠some none)->oL b=b.length
 |[],_=>rfl
 |none :: b,h=>QK rfl (h 0)
 |some e :: b,h=>by
  have:=NK (b:=b) λk a=>h (k+1) (by simpa using a)
  simp only[oL,Qn,this]
end
theorem KS{L:List Q_}(nd:(L.map (·.name)).Nodup):(L.foldl dH []).Perm L:=by
 obtain⟨h,l⟩:=jN L [] List.Pairwise.nil (mP nd);have i:Qq (L.foldl dH [])=Qq L:=by
  funext n
  rw[l];cases Qq L n<;>rfl
 have m:L.Nodup:=List.Pairwise.of_map (·.name) (λj k b e=>b (by rw[e])) nd;have p:(L.foldl dH []).Nodup:=List.Pairwise.imp (R:=λx y:Q_=>aQ x.name y.name) (S:=λx y=>x≠y) (λ{j k} b (e:j=k)=>fM b (congrArg Q_.name e)) h;refine (List.perm_ext_iff_of_nodup p m).2 λr=>⟨λf=>?_,λf=>?_⟩
 .have a:=bO h f;rw[i] at a;exact (bA a).1
 .have a:=gD nd f;rw[<-i] at a;exact (bA a).1
theorem uo{W:bf}:∀{l:List Q_},(∀r∈l,r.Zq=0)->bJ W l=0
 |[],_=>rfl
 |r :: l,h=>by
  have e:bJ W (r :: l)=r.Zq*iE W r.name+bJ W l:=by simp[bJ]
  rw[e,h r (List.mem_cons_self ..),uo λx c=>h x (PS _ c)];simp
theorem LW{W:bf}{T:List Q_}{r:Q_}(a:d_ T)(d:r∈T):bJ W (doL W T r)=bJ W T+((Xx W (Qq T) r).1.Zq-r.Zq)*iE W r.name:=by
 have f:∀A B:List Q_,bJ W (A++B)=bJ W A+bJ W B:=λA B=>by simp[bJ]
 have j:∀(x:Q_)(B:List Q_),bJ W (x :: B)=x.Zq*iE W x.name+bJ W B:=λx B=>by simp[bJ]
 have b:(Xx W (Qq T) r).1.name=r.name:=dz;unfold doL;generalize Xx W (Qq T) r=z at b;obtain⟨q,k⟩:=z;simp only at b⊢;have nd:((dH T q).map (·.name)).Nodup:=by
  rw[List.Nodup,List.pairwise_map];exact (lY a).imp λc=>fM c
 obtain⟨G,e,m,n⟩:=lM W k (dH T q) nd;rw[Bn W (KS n),e,f,uo (l:=G) λg p=>by rw[(m g p).1];rfl];have s:dH T r=T:=BJ (lY a) a λx=>by
  rw[sK];constructor
  .rintro (rfl|c)
   .exact d
   .exact c.1
  .intro h;by_cases e:x.name=r.name
   .exact .inl (qC a x h r d e)
   .exact .inr ⟨h,e⟩
 have i:bJ W (dH T r)=bJ W T:=by rw[s]
 unfold dH at i⊢;rw[f,j] at i⊢;rw[b,Int.sub_mul];omega
def Gd(k t D x:Int)(full:Prop):Prop:=x<=t/\(full->t<=x)/\k*t<=D+(k-1)*x
theorem Gd.busy{k t D x d m:Int}{a:Prop}(h:Gd k t D x a)(c:d<=m):Gd k (t+d) (D+m) (x+d) a:=by
 obtain⟨e,b,i⟩:=h;refine⟨A7,λf=>by have:=b f;omega,?_⟩;rw[Int.mul_add,Int.mul_add,Int.sub_mul k 1 d];omega
theorem Gd.all{k t D x d:Int}{a:Prop}(h:Gd k t D x a)(b:¬a)(c:0<=d):Gd k (t+d) (D+d*k) x a:=by
 obtain⟨e,i,j⟩:=h;refine⟨A7,λf=>QK f b,?_⟩;rw[Int.mul_add,Int.mul_comm d k];omega
def wkD(W:bf)(t:Int)(S:bP):Int:=iH W S.slots-iL t S.busy
def GdC(Kq:List Qz)(wk:Nat)(t:Int)(S:bP)(p y:Int):Prop:=∃l,ChR S.slots S.back p l/\Gd wk t (wkD (Kk Kq) t S) (iH (Kk Kq) l-y) (Kq.length<=wk)
structure Tm8 (Kq:List Qz)(wk:Nat)(t:Int)(S:bP):Prop where
 nn:0<=t
 cost:iH (Kk Kq) S.slots=bJ (Kk Kq) S.T+kM (Kk Kq) S.busy
 work:wkD (Kk Kq) t S<=wk*t
 one:wk=1->t<=wkD (Kk Kq) t S
 of:∀n,Of (Kk Kq) S n->GdC Kq wk t S (S.cause n) 0
 bz:∀(k:Nat)(e:di),S.busy[k]? =some (some e)->GdC Kq wk t S e.slot (e.fin-t)
 en:∀(p:Nat)(s:aU),S.slots[p]? =some s->(∃(k:Nat)(e:di),S.busy[k]? =some (some e)/\e.slot=p)\/s.at'+aR (Kk Kq) s.name<t\/(s.at'+aR (Kk Kq) s.name=t/\GdC Kq wk t S p 0)
 last:t=0\/∃s∈S.slots,s.at'+aR (Kk Kq) s.name=t
theorem yO{W:bf}{S:bP}{n m:QV}{j:Int}(h:aT W (Qq (doneS W S n j).T) m):(doneS W S n j).cause m=j\/((doneS W S n j).cause m=S.cause m/\m≠n/\aT W (Qq S.T) m):=by
 by_cases c:m=n\/¬aT W (Qq S.T) m
 .exact .inl (QI ⟨h,c⟩)
 .exact .inr ⟨QJ λx=>c x.2,λe=>c (.inl e),Classical.byContradiction λe=>c (.inr e)⟩
theorem ChR.more{slots:List aU}{back:List Int}{p:Int}{l:List aU}(a:List aU)(b:List Int)(h:ChR slots back p l):ChR (slots++a) (back++b) p l:=by
 induction h with
 |stop h=>exact .stop h
 |go hs hc _ ih=>exact .go (by rw[Qx (PG.1 hs).1];exact hs) (by rw[Qx (PG.1 hc).1];exact hc) ih
section
variable {Kq:List Qz}{wk:Nat}{S A:bP}{t u:Int}{k:Nat}{e:di}{n:QV}{r:Q_}
theorem Bq(c:fU Kq S.T)(b:Qq S.T n=some r)(d:bg (Kk Kq) (Qq S.T) r):bJ (Kk Kq) (doN (Kk Kq) S.T n)=bJ (Kk Kq) S.T+if r.Zq=20 then 0 else aR (Kk Kq) n:=by
 have a:=c.wf n r b;have f:=LW (W:=Kk Kq) c.asc (bA b).1;have h:=(Ay a d).hi;unfold doN;rw[b,tQ];simp only;rw[f,a.name];rcases f_ d (by rw[a.name];exact a.web) with e|⟨e1,e2,_⟩
 .rw[QJ A7,e];have:r.Zq+1-r.Zq=1:=A7;rw[this,Int.one_mul]
 .rw[QI e1,e1,e2];simp
theorem Tm8.freed(h:Tm8 Kq wk t S)(l:cZ Kq wk S)(b:S.busy[k]? =some (some e))(G:e.fin=t):Tm8 Kq wk t (doneS (Kk Kq) {S with busy:=S.busy.set k none} e.name e.slot):=by
 obtain⟨P,H,_⟩:=Kn (W:=Kk Kq) (t:=t) b;have q:wkD (Kk Kq) t (doneS (Kk Kq) {S with busy:=S.busy.set k none} e.name e.slot)=wkD (Kk Kq) t S:=by
  show iH _ S.slots-iL t (S.busy.set k none)=iH _ S.slots-iL t S.busy;omega
 have i:∀p y,GdC Kq wk t S p y->GdC Kq wk t (doneS (Kk Kq) {S with busy:=S.busy.set k none} e.name e.slot) p y:=λp y ⟨I,J,K⟩=>⟨I,J,by rw[q];exact K⟩
 have w:GdC Kq wk t S e.slot 0:=by
  have:=h.bz k e b;rw[G,Int.sub_self] at this;exact this
 have z:∀(a:Nat),a≠k->(S.busy.set k none)[a]? =S.busy[a]? :=λa L=>PT λx=>L x.symm
 refine⟨h.nn,?_,by rw[q];exact h.work,λn=>by rw[q];exact h.one n,λm A=>?_,λa j M=>?_,λp B C=>?_,h.last⟩
 .show iH _ S.slots=bJ _ (doN _ S.T e.name)+kM _ (S.busy.set k none);obtain⟨r,n,D⟩:=l.bT.rdy k e b;rw[H,Bq l.good n D,QJ λx=>l.nsp e.name ⟨k,e,b,rfl⟩ ⟨r,n,D,x⟩,h.cost];omega
 .rcases yO A.1 with c|⟨c,s,v⟩
  .rw[c];exact i _ _ w
  .rw[c];refine i _ _ (h.of m ⟨v,λ⟨a,j,d,f⟩=>A.2 ⟨a,j,?_,f⟩⟩);show (S.busy.set k none)[a]? =_;rw[z a λx=>s ?_]
   .exact d
   .subst x;rw[b] at d;cases d;exact f.symm
 .rcases ib M with⟨_,x⟩|⟨_,x⟩
  .cases x
  .exact i _ _ (h.bz a j x)
 .rcases h.en p B C with⟨a,j,d,f⟩|c|⟨s,v⟩
  .by_cases E:a=k
   .subst E;rw[b] at d;cases d;obtain⟨Q,F,N,_,R⟩:=l.bT.fin a e b;have O:S.slots[p]? =some B:=C;rw[f,O] at F;cases F;exact .inr (.inr ⟨by rw[N];omega,i _ _ (by rw[<-f];exact w)⟩)
   .exact .inl ⟨a,j,(z a E).trans d,f⟩
  .exact .inr (.inl c)
  .exact .inr (.inr ⟨s,i _ _ v⟩)
theorem Tm8.spent(h:Tm8 Kq wk t S)(b:cZ Kq wk S)(a:Sp (Kk Kq) S n):Tm8 Kq wk t (doneS (Kk Kq) S n (S.cause n)):=by
 refine⟨h.nn,?_,h.work,h.one,λm d=>?_,h.bz,h.en,h.last⟩
 .show iH _ S.slots=bJ _ (doN _ S.T n)+kM _ S.busy;obtain⟨r,e,f,i⟩:=a;rw[Bq b.good e f,QI i,h.cost,Int.add_zero]
 .rcases yO d.1 with c|⟨c,l,j⟩
  .rw[c];exact h.of n ⟨a.ready,λk=>b.nsp n k a⟩
  .rw[c];exact h.of m ⟨j,d.2⟩
theorem Tm8.begun(h:Tm8 Kq wk t S)(A:cZ Kq wk S)(f:S.busy[k]? =some none)(B:Of (Kk Kq) S n):Tm8 Kq wk t (iw (Kk Kq) S t k n):=by
 obtain⟨C,D⟩:=take8 (W:=Kk Kq) (t:=t) ⟨n,t+aR (Kk Kq) n,S.slots.length⟩ f;have e:wkD (Kk Kq) t (iw (Kk Kq) S t k n)=wkD (Kk Kq) t S:=by
  show iH _ (S.slots++_)-iL t (S.busy.set k _)=iH _ S.slots-iL t S.busy;rw[qO,C];simp only;omega
 have i:∀p y,GdC Kq wk t S p y->GdC Kq wk t (iw (Kk Kq) S t k n) p y:=λp y ⟨l,j,m⟩=>⟨l,j.more _ _,by rw[e];exact m⟩
 have E:k<S.busy.length:=(PG.1 f).1;have w:∀(a:Nat)(b:di),S.busy[a]? =some (some b)->(iw (Kk Kq) S t k n).busy[a]? =some (some b):=λa b d=>by
  show (S.busy.set k _)[a]? =_;rw[PT λx=>by subst x;rw[f] at d;cases d];exact d
 refine⟨h.nn,?_,by rw[e];exact h.work,λd=>by rw[e];exact h.one d,λF z=>i _ _ (h.of F ⟨z.1,λ⟨a,b,q,r⟩=>z.2 ⟨a,b,w a b q,r⟩⟩),λa b G=>?_,λp s H=>?_,h.last.imp id λ⟨s,d,I⟩=>⟨s,List.mem_append_left _ d,I⟩⟩
 .show iH _ (S.slots++_)=bJ _ S.T+kM _ (S.busy.set k _);rw[qO,D,h.cost];simp only;omega
 .rcases ib G with⟨_,x⟩|⟨_,x⟩
  .simp only[Ql] at x;subst x;obtain⟨l,j,m⟩:=h.of n B;refine⟨l++[⟨t,k,n⟩],.go (p:=S.slots.length) (c:=S.cause n) ?_ ?_ (j.more _ _),?_⟩
   .show (S.slots++_)[S.slots.length]? =_;simp
   .show (S.back++_)[S.slots.length]? =_;rw[<-A.bT.back];simp
   .rw[e,qO];have J:iH (Kk Kq) l+aR (Kk Kq) n-(t+aR (Kk Kq) n-t)=iH (Kk Kq) l-0:=A7;simp only;rw[J];exact m
  .exact i _ _ (h.bz a b x)
 .have v:(S.slots++[⟨t,k,n⟩])[p]? =some s:=H;by_cases K:p<S.slots.length
  .rw[Qx K] at v;rcases h.en p s v with⟨a,b,q,r⟩|c|⟨L,M⟩
   .exact .inl ⟨a,b,w a b q,r⟩
   .exact .inr (.inl c)
   .exact .inr (.inr ⟨L,i _ _ M⟩)
  .have N:=(PG.1 v).1;simp only[Qi,QQ] at N;refine .inl ⟨k,_,QF E,?_⟩;show S.slots.length=p;omega
theorem ng.tm(b:aX (Kk Kq))(h:ng (Kk Kq) t S A):cZ Kq wk S->Tm8 Kq wk t S->Tm8 Kq wk t A:=by
 induction h with
 |stop=>exact λ_ h=>h
 |@go S S' k e hk he _ _ ih=>
  intro a c;obtain⟨d,f,i⟩:=a.free hk;exact ih (d.done b f i (j:=e.slot) ⟨A7,by have:=a.bT.slot k e hk;show ((e.slot:Nat):Int)<((S.slots.length:Nat):Int);omega⟩).1 (c.freed a hk he)
theorem oO.tm(c:aX (Kk Kq))(h:oO (Kk Kq) S A):cZ Kq wk S->Tm8 Kq wk t S->Tm8 Kq wk t A:=by
 induction h with
 |stop=>exact λ_ h=>h
 |@go S S' n hn _ ih=>exact λa d=>ih (a.done c hn.1.ready (λe=>a.nsp n e hn.1) (a.bT.jb n)).1 (d.spent a hn.1)
theorem nD.tm(h:nD (Kk Kq) t S A):(∀n,¬Sp (Kk Kq) S n)->cZ Kq wk S->Tm8 Kq wk t S->Tm8 Kq wk t A:=by
 induction h with
 |stop=>exact λ_ _ h=>h
 |go hk _ hn _ ih=>exact λb c d=>ih b (c.begin hk hn.1 b) (d.begun c hk hn.1)
theorem mM.tm(a:aX (Kk Kq))(h:mM (Kk Kq) t S A)(c:cZ Kq wk S)(f:Tm8 Kq wk t S):Tm8 Kq wk t A:=by
 obtain⟨j,k,d,b,i⟩:=h;have e:=(d.live a c).1;exact i.tm b.busy.2 (b.live a e).1 (b.tm a e (d.tm a c f))
theorem cZ.many(f:cZ Kq wk S)(t:∀k:Nat,S.busy[k]?≠some none)(s:Of (Kk Kq) S n):¬Kq.length<=wk:=by
 obtain⟨m,i⟩:∃m:Nat->QV,∀(k:Nat)(e:di),S.busy[k]? =some (some e)->m k=e.name:=⟨λk=>match S.busy[k]? with|some (some e)=>e.name|_=>n,λk e h=>by simp only[h]⟩;have j:∀k∈List.range wk,∃e,S.busy[k]? =some (some e):=λk l=>by
  have l:k<S.busy.length:=by rw[f.bT.len];exact List.mem_range.1 l
  cases h:S.busy[k] with
  |none=>exact QK (by rw[PE l,h]) (t k)
  |some e=>exact⟨e,by rw[PE l,h]⟩
 have v:(n :: (List.range wk).map m).Nodup:=by
  rw[List.nodup_cons];constructor
  .intro w;obtain⟨k,b,c⟩:=PX.1 w;obtain⟨e,d⟩:=j k b;exact s.2 ⟨k,e,d,by rw[<-c,i k e d]⟩
  .rw[List.Nodup,List.pairwise_map];refine List.pairwise_lt_range.imp_of_mem λ{a p} z A E e=>?_
   obtain⟨x,b⟩:=j a z;obtain⟨y,c⟩:=j p A;rw[i a x b,i p y c] at e;have:=f.bT.diff a p x y b c e;omega
 have B:=List.Nodup.length_le_of_subset v (l₂:=S.T.map (·.name)) (λy q=>by
  have C:aT (Kk Kq) (Qq S.T) y:=by
   rcases Qr.1 q with rfl|q
   .exact s.1
   .obtain⟨k,b,c⟩:=PX.1 q;obtain⟨e,d⟩:=j k b;rw[<-c,i k e d];exact f.bT.rdy k e d
  obtain⟨D,r,_⟩:=C;exact PX.2 ⟨D,(bA r).1,(bA r).2⟩)
 have r:=f.good.len;simp only[Qn,QD,List.length_range] at B;omega
theorem Tm8.later(h:Tm8 Kq wk t S)(a:cZ Kq wk S)(q:Ez (Kk Kq) t S)(x:∃(k:Nat)(e:di),S.busy[k]? =some (some e)/\e.fin=u)(I:∀(k:Nat)(e:di),S.busy[k]? =some (some e)->u<=e.fin):Tm8 Kq wk u S:=by
 obtain⟨r,v,i,J⟩:=x;have K:t<u:=by have:=q.fin r v i;omega
 obtain⟨y,z⟩:=Fv (t:=t) (u:=u) S.busy;have L:1<=oL S.busy:=(Kn (W:=Kk Kq) (t:=t) i).2.2;obtain⟨d,rfl⟩:∃d,u=t+d:=⟨u-t,A7⟩;have A:t+d-t=d:=A7;rw[A] at y;rw[a.bT.len] at z;have b:wkD (Kk Kq) (t+d) S=wkD (Kk Kq) t S+d*oL S.busy:=by unfold wkD;omega
 have M:d*1<=d*(oL S.busy:Int):=Int.mul_le_mul_of_nonneg_left A7 A7;have N:d*(oL S.busy:Int)<=d*(wk:Int):=Int.mul_le_mul_of_nonneg_left A7 A7;have O:=h.nn;refine⟨A7,h.cost,?_,λB=>?_,λw j=>?_,λk e C=>?_,λD s E=>?_,.inr ?_⟩
 .have:=h.work;rw[b,Int.mul_add,Int.mul_comm (wk:Int) d];omega
 .have:=h.one B;rw[b];omega
 .rcases q.beg with f|f
  .obtain⟨l,n,p⟩:=h.of w j;have:=p.all (a.many f j) (d:=d) A7;refine⟨l,n,?_⟩;rw[b,NK f,a.bT.len];exact this
  .exact QK j (f w)
 .obtain⟨l,n,p⟩:=h.bz k e C;have:=p.busy (d:=d) (m:=d*(oL S.busy:Int)) A7;refine⟨l,n,?_⟩;have F:iH (Kk Kq) l-(e.fin-(t+d))=iH (Kk Kq) l-(e.fin-t)+d:=A7;rw[b,F];exact this
 .rcases h.en D s E with c|c|⟨c,_⟩
  .exact .inl c
  .exact .inr (.inl A7)
  .exact .inr (.inl A7)
 .obtain⟨s,G,H,_,P⟩:=a.bT.fin r v i;exact⟨s,PP G,by rw[H];omega⟩
theorem rX.tm(b:aX (Kk Kq))(e:JL (Kk Kq))(h:rX (Kk Kq) t S u A):cZ Kq wk S->sW t S->Tm8 Kq wk t S->Tm8 Kq wk u A/\cZ Kq wk A/\yP A/\Ez (Kk Kq) u A:=by
 induction h with
 |last h hi=>exact λa c d=>⟨h.tm b a d,(h.live b a).1,hi,(h.rest a.bT.ok e c).1⟩
 |next h he hle _ ih=>
  intro a c d;have f:=(h.live b a).1;exact ih f hle ((h.tm b a d).later f (h.rest a.bT.ok e c).1 he hle)
theorem yj(c:cZ Kq wk S)(j:1<=wk)(hi:yP S)(d:Ez (Kk Kq) t S):AtEnd (aT (Kk Kq)) (Qq S.T):=λn f=>by
 rcases d.beg with h|h
 .have a:0<S.busy.length:=by rw[c.bT.len];omega
  cases b:S.busy[0] with
  |none=>exact h 0 (by rw[PE a,b])
  |some e=>exact hi 0 e (by rw[PE a,b])
 .exact h n ⟨f,λ⟨k,e,i,_⟩=>hi k e i⟩
end
variable {Kq:List Qz}
theorem EA(a:aX (Kk Kq)):JL (Kk Kq):=λn c h=>by have:=(a n c h).1.1;omega
theorem jf(T:List Q_)(wk:Nat):yP (iR T wk):=λk e h=>by
 have a:(List.replicate wk (none:Option di))[k]? =some (some e):=h;rw[List.getElem?_replicate] at a
 split at a<;>simp at a
theorem Bv{Kj:List QV}{wk:Nat}(b:fU Kq (b_ Kq Kj)):Tm8 Kq wk 0 (iR (b_ Kq Kj) wk):=by
 obtain⟨c,d⟩:=KM (t:=0) (W:=Kk Kq) (jf (b_ Kq Kj) wk);have e:bJ (Kk Kq) (b_ Kq Kj)=0:=uo λr f=>by
  have h:=bO b.asc f;rw[ik] at h
  split at h
  .rw[<-Qv h];rfl
  .cases h
 have a:wkD (Kk Kq) 0 (iR (b_ Kq Kj) wk)=0:=by
  show 0-iL 0 (iR (b_ Kq Kj) wk).busy=0;rw[c]
  rfl
 refine⟨Int.le_refl _,?_,by rw[a];simp,λ_=>by rw[a];exact Int.le_refl _,λn _=>⟨[],.stop (by show (-1:Int)<0;decide),?_⟩,λk i j=>QK j (jf _ _ k i),λp s l=>?_,.inl rfl⟩
 .show (0:Int)=bJ _ (b_ Kq Kj)+kM _ (iR (b_ Kq Kj) wk).busy;rw[d,e]
  rfl
 .rw[a];refine⟨Int.le_refl _,λ_=>Int.le_refl _,?_⟩;show (wk:Int)*0<=0+((wk:Int)-1)*0;simp
 .have m:([]:List aU)[p]? =some s:=l;simp at m
theorem Dk{Kj:List QV}{wk:Nat}{slots chain:List aU}{u:Int}{T:List Q_}(a:aX (Kk Kq))(x:1<=wk)(y:DZ (Kk Kq) (b_ Kq Kj) wk slots u T chain):Js Kq Kj T/\bJ (Kk Kq) T<=wk*u/\(wk=1->u<=bJ (Kk Kq) T)/\Gd wk u (bJ (Kk Kq) T) (iH (Kk Kq) chain) (Kq.length<=wk):=by
 obtain⟨A,N,m,rfl,rfl,f,n⟩:=y;have p:=kr a Kj;have q:=jk (wk:=wk) p;obtain⟨b,d,h,z⟩:=m.tm a (EA a) q (λk e B=>QK B (jf _ _ k e)) (Bv p);obtain⟨_,j,C⟩:=m.live a q;obtain⟨D,E⟩:=KM (t:=u) (W:=Kk Kq) h;have F:iH (Kk Kq) A.slots=bJ (Kk Kq) A.T:=by rw[b.cost,E,Int.add_zero]
 have i:wkD (Kk Kq) u A=bJ (Kk Kq) A.T:=by unfold wkD;rw[D,F,Int.sub_zero]
 refine⟨⟨d.good,⟨j,C⟩,yj d x h z⟩,by rw[<-i];exact b.work,λe=>by rw[<-i];exact b.one e,?_⟩;rcases f with⟨rfl,f⟩|⟨G,s,rfl,H,O,_⟩
 .have I:u=0:=b.last.resolve_right λ⟨s,J,K⟩=>f s J K
  subst I;have:=n.unique (.stop A8);subst this;have L:=(wU a (l:=A.T) λr v=>⟨(d.good.good r v).lo,(d.good.good r v).hi⟩).1;refine⟨Int.le_refl _,λ_=>Int.le_refl _,?_⟩;show (wk:Int)*0<=_+((wk:Int)-1)*0;simp only[Int.mul_zero,Int.add_zero];exact L
 .rcases b.en G s H with⟨k,e,c,_⟩|c|⟨_,l,M,w⟩
  .exact QK c (h k e)
  .omega
  .have:=n.unique M;subst this;rw[i,Int.sub_zero] at w;exact w
def Mvd(r:Q_)(x:Option Q_):Prop:=∃q,x=some q/\(r.Zq<q.Zq\/(q.over=true/\r.over=false))
def Led(W:bf)(σ τ :Env):Prop:=∃j,dx (aT W) (doX W) σ τ j
section
variable {W:bf}{σ τ ρ:Env}{n:QV}{r:Q_}
theorem Led.refl(σ:Env):Led W σ σ:=⟨0,.here _⟩
theorem Led.trans(h:Led W σ τ)(g:Led W τ ρ):Led W σ ρ :=by
 obtain⟨i,h⟩:=h;obtain⟨j,g⟩:=g;exact⟨_,h.trans g⟩
theorem Led.wf(h:Led W σ τ)(b:WfX W σ):WfX W τ :=by
 obtain⟨j,h⟩:=h;exact h.keeps (P:=WfX W) (λ_ _ g c=>ze g c) b
theorem Led.mvd(h:Led W σ τ)(c:WfX W σ)(d:Mvd r (σ n)):Mvd r (τ n):=by
 obtain⟨j,h⟩:=h;obtain⟨q,b,a⟩:=d;obtain⟨e,f,k⟩:=yl h c b;rcases a with a|⟨a,i⟩
 .exact⟨e,f,.inl A7⟩
 .exact⟨q,DI h b a,.inr ⟨a,i⟩⟩
theorem GY(d:WfX W σ)(a:σ n=some r)(b:bg W σ r):Mvd r (doX W σ n n):=by
 have c:=d n r a;refine⟨_,iT a,?_⟩;rcases f_ b (by rw[c.name];exact c.web) with e|⟨_,_,e⟩
 .exact .inl A7
 .exact .inr ⟨e,b.1⟩
theorem yC{j:Nat}(h:dx (aT W) (doX W) σ τ j):σ n=some r->aT W σ n->Led W (doX W σ n) τ \/(τ n=some r/\aT W τ n):=by
 induction h with
 |here s=>exact λb a=>.inr ⟨b,a⟩
 |step s t i k hi hrest ih=>
  intro b a;by_cases e:n=i
  .subst e;exact .inl ⟨k,hrest⟩
  .obtain⟨c,d⟩:=oP s n i e a hi;obtain⟨f,_⟩:=oP s i n (Ne.symm e) hi a;rcases ih (fD e b) f with⟨m,g⟩|g
   .exact .inl ⟨m+1,.step _ _ i _ c (by rw[d];exact g)⟩
   .exact .inr g
theorem Led.part(h:Led W σ τ)(b:σ n=some r)(e:bg W σ r)(f:Mvd r (τ n)):Led W (doX W σ n) τ :=by
 obtain⟨j,h⟩:=h;rcases yC h b ⟨r,b,e⟩ with g|⟨g,_⟩
 .exact g
 .obtain⟨q,c,a⟩:=f;rw[g] at c;cases c;rcases a with a|⟨a,d⟩
  .omega
  .rw[a] at d;cases d
end
structure Nk (W:bf)(t u:Int)(E:Int->Env):Prop where
 led:∀x y,t<=x->x<=y->Led W (E x) (E y)
 nsp:∀x,t<=x->∀n r,E x n=some r->bg W (E x) r->r.Zq≠20
 soon:∀x,t<=x->∀n r,E x n=some r->bg W (E x) r->Mvd r (E (x+aR W n) n)
 busy:∀x,t<=x->x<u->∃n,aT W (E x) n
section
variable {Kq:List Qz}{wk:Nat}{S A:bP}{t u v:Int}{k:Nat}{e:di}{n:QV}{r:Q_}{E:Int -> Env}
theorem Ga(b:cZ Kq wk S)(c:Rdy (Kk Kq) S n):Qq (doN (Kk Kq) S.T n)=doX (Kk Kq) (Qq S.T) n:=by
 obtain⟨r,a,_⟩:=c;unfold doN;rw[a];exact jT b.good.asc a
theorem ng.bz(i:aX (Kk Kq))(h:ng (Kk Kq) t S A):cZ Kq wk S->S.busy[k]? =some (some e)->Qq S.T e.name=some r->(e.fin=t/\Mvd r (Qq A.T e.name))\/(e.fin≠t/\A.busy[k]? =some (some e)/\Qq A.T e.name=some r):=by
 induction h with
 |stop h=>exact λ_ a b=>.inr ⟨h _ _ a,a,b⟩
 |@go S S' k0 e0 hk0 he0 _ hx ih=>
  intro c a b;obtain⟨l,m,s⟩:=c.free hk0;obtain⟨d,_⟩:=l.done i m s (j:=e0.slot) ⟨A7,by have:=c.bT.slot k0 e0 hk0;show ((e0.slot:Nat):Int)<((S.slots.length:Nat):Int);omega⟩;have n:Qq (doneS (Kk Kq) {S with busy:=S.busy.set k0 none} e0.name e0.slot).T=doX (Kk Kq) (Qq S.T) e0.name:=Ga l m;by_cases f:k=k0
  .subst f;rw[a] at hk0;cases hk0;obtain⟨y,p,v⟩:=c.bT.rdy k e a;rw[b] at p;cases p;have q:=GY c.good.wf b v;rw[<-n] at q;exact .inl ⟨he0,Led.mvd (hx.live i d).2 d.good.wf q⟩
  .have w:e.name≠e0.name:=λx=>f (c.bT.diff k k0 e e0 a hk0 x)
   refine ih d ?_ (by rw[n];exact fD w b);show (S.busy.set k0 none)[k]? =_;rw[PT λx=>f x.symm];exact a
theorem oO.stays(d:aX (Kk Kq))(h:oO (Kk Kq) S A):cZ Kq wk S->Bz S n->Qq S.T n=some r->Qq A.T n=some r:=by
 induction h with
 |stop=>exact λ_ _ c=>c
 |@go S S' m hm _ ih=>
  intro a b c;obtain⟨f,_⟩:=a.done d hm.1.ready (λb=>a.nsp m b hm.1) (a.bT.jb m);refine ih f b ?_;show Qq (doN (Kk Kq) S.T m) n=_;rw[Ga a hm.1.ready];exact fD (λx=>a.nsp m (by rw[<-x];exact b) hm.1) c
theorem nD.stays{W:bf}(h:nD W t S A):S.busy[k]? =some (some e)->A.busy[k]? =some (some e):=by
 induction h with
 |stop=>exact λh=>h
 |@go S S' k0 n hk _ _ _ ih=>
  intro h;refine ih ?_;show (S.busy.set k0 _)[k]? =_;rw[PT λx=>by subst x;rw[hk] at h;cases h];exact h
def Dp(W:bf)(t:Int)(S:bP):Prop:=∀(k:Nat)(e:di),S.busy[k]? =some (some e)->e.fin<=t+aR W e.name
theorem ng.ago{W:bf}(h:ng W t S A):Dp W t S->Dp W t A:=by
 induction h with
 |stop=>exact λh=>h
 |go _ _ _ _ ih=>
  refine λh=>ih λc d e=>?_
  rcases ib e with⟨_,x⟩|⟨_,x⟩
  .cases x
  .exact h c d x
theorem nD.ago{W:bf}(h:nD W t S A):Dp W t S->Dp W t A:=by
 induction h with
 |stop=>exact λh=>h
 |go _ _ _ _ ih=>
  refine λh=>ih λc d e=>?_
  rcases ib e with⟨_,x⟩|⟨_,x⟩
  .simp only[Ql] at x;subst x;exact Int.le_refl _
  .exact h c d x
theorem mM.ago{W:bf}(h:mM W t S A)(a:Dp W t S):Dp W t A:=by
 obtain⟨e,f,b,c,d⟩:=h;refine d.ago ?_;have:=b.ago a;unfold Dp at this⊢;rw[c.busy.1];exact this
theorem mM.bz(a:aX (Kk Kq))(m:mM (Kk Kq) t S A)(h:cZ Kq wk S)(n:S.busy[k]? =some (some e))(p:Qq S.T e.name=some r):(e.fin=t/\Mvd r (Qq A.T e.name))\/(e.fin≠t/\A.busy[k]? =some (some e)/\Qq A.T e.name=some r):=by
 obtain⟨v,w,i,b,j⟩:=m;have d:=(i.live a h).1;have l:=b.live a d;have q:=(j.live b.busy.2 l.1).2;rw[q];rcases i.bz a h n p with⟨f,c⟩|⟨f,c,s⟩
 .exact .inl ⟨f,Led.mvd l.2 d.good.wf c⟩
 .exact .inr ⟨f,j.stays (by rw[b.busy.1];exact c),b.stays a d ⟨k,e,c,rfl⟩ s⟩
theorem rX.way(s:aX (Kk Kq))(G:JL (Kk Kq))(P:Kq.length<=wk)(Q:1<=wk)(h:rX (Kk Kq) t S u A):cZ Kq wk S->sW t S->Dp (Kk Kq) t S->∃E,Nk (Kk Kq) t u E/\Led (Kk Kq) (Qq S.T) (E t)/\∀(k:Nat)(e:di)(r:Q_),S.busy[k]? =some (some e)->Qq S.T e.name=some r->Mvd r (E e.fin e.name):=by
 induction h with
 |@last t S S3 h hi=>
  intro m w H;obtain⟨q,z⟩:=h.live s m;have I:=yj q Q hi (h.rest m.bT.ok G w).1;refine⟨λ_=>Qq S3.T,⟨λ_ _ _ _=>.refl _,λx _ n r i b=>QK ⟨r,i,b⟩ (I n),λx _ n r i b=>QK ⟨r,i,b⟩ (I n),λx i b=>A7⟩,z,λk e r v B=>?_⟩;rcases h.bz s m v B with⟨_,j⟩|⟨_,j,_⟩
  .exact j
  .exact QK j (hi k e)
 |@next t t' u S S3 S' h ht hle _ ih=>
  intro m w H;obtain⟨q,z⟩:=h.live s m;have C:=(h.rest m.bT.ok G w).1;obtain⟨J,D,K,Y⟩:=ht;have R:t<t':=by have:=C.fin J D K;omega
  have L:=h.ago H;obtain⟨E,p,M,l⟩:=ih q hle λk e v=>by have:=L k e v;omega
  have U:∀n,¬Of (Kk Kq) S3 n:=λn N=>by
   rcases C.beg with l|l
   .exact q.many l N P
   .exact l n N
  refine⟨λx=>if x<t' then Qq S3.T else E x,⟨λx y i b=>?_,λx i n r b f=>?_,λx i n r b f=>?_,λx i b=>?_⟩,?_,λk e r v B=>?_⟩
  .by_cases d:x<t'
   .by_cases O:y<t'
    .simp only[QI d,QI O];exact .refl _
    .simp only[QI d,QJ O];exact M.trans (p.led t' y (Int.le_refl _) A7)
   .simp only[QJ d,QJ (show¬y<t' by omega)];exact p.led x y A7 b
  .by_cases d:x<t'
   .simp only[QI d] at b f;exact λe=>C.spt n ⟨r,b,f,e⟩
   .simp only[QJ d] at b f;exact p.nsp x A7 n r b f
  .by_cases d:x<t'
   .simp only[QI d] at b f;obtain⟨k,e,F,V⟩:Bz S3 n:=Classical.byContradiction λl=>U n ⟨⟨r,b,f⟩,l⟩
    subst V;have Z:=L k e F;have W:=hle k e F;simp only[QJ (show¬x+aR (Kk Kq) e.name<t' by omega)];have X:=l k e r F b;exact (p.led _ _ A7 A7).mvd ((M.trans (p.led _ _ (Int.le_refl _) W)).wf q.good.wf) X
   .have hc:0<=aR (Kk Kq) n:=by rw[tQ];exact (lh s n).1
    simp only[QJ d] at b f;simp only[QJ (show¬x+aR (Kk Kq) n<t' by omega)];exact p.soon x A7 n r b f
  .by_cases d:x<t'
   .simp only[QI d];exact⟨D.name,q.bT.rdy J D K⟩
   .simp only[QJ d];exact p.busy x A7 b
  .simp only[QI R];exact z
  .rcases h.bz s m v B with⟨a,j⟩|⟨a,j,c⟩
   .simp only[QI (show e.fin<t' by omega)];exact j
   .simp only[QJ (show¬e.fin<t' by have:=hle k e j;omega)];exact l k e r j c
structure vZ (W:bf)(E:Int->Env)(t:Int)(S:bP):Prop where
 led:Led W (Qq S.T) (E t)
 bz:∀(k:Nat)(e:di)(r:Q_),S.busy[k]? =some (some e)->Qq S.T e.name=some r->Mvd r (E e.fin e.name)
theorem vZ.done(l:vZ (Kk Kq) E t S)(c:cZ Kq wk S){j:Int}{b:List (Option di)}(m:∀(k:Nat)(e:di),b[k]? =some (some e)->S.busy[k]? =some (some e)/\e.name≠n)(p:Qq S.T n=some r)(q:bg (Kk Kq) (Qq S.T) r)(s:Led (Kk Kq) (doX (Kk Kq) (Qq S.T) n) (E t)):vZ (Kk Kq) E t (doneS (Kk Kq) {S with busy:=b} n j):=by
 have d:Qq (doN (Kk Kq) S.T n)=doX (Kk Kq) (Qq S.T) n:=Ga c ⟨r,p,q⟩;refine⟨by show Led _ (Qq (doN (Kk Kq) S.T n)) _;rw[d];exact s,λk e f v a=>?_⟩;obtain⟨h,w⟩:=m k e v;obtain⟨x,i,_⟩:=c.bT.rdy k e h;have a:Qq (doN (Kk Kq) S.T n) e.name=some f:=a;rw[d,fD w i] at a;exact l.bz k e f h (i.trans a)
theorem ng.beh(i:aX (Kk Kq))(h:ng (Kk Kq) t S A):cZ Kq wk S->vZ (Kk Kq) E t S->vZ (Kk Kq) E t A:=by
 induction h with
 |stop=>exact λ_ h=>h
 |@go S S' k e hk he _ _ ih=>
  intro a b;obtain⟨l,m,n⟩:=a.free hk;obtain⟨p,_⟩:=l.done i m n (j:=e.slot) ⟨A7,by have:=a.bT.slot k e hk;show ((e.slot:Nat):Int)<((S.slots.length:Nat):Int);omega⟩;obtain⟨r,c,d⟩:=a.bT.rdy k e hk;refine ih p (b.done a (λq s v=>?_) c d (b.led.part c d (by rw[<-he];exact b.bz k e r hk c)));rcases ib v with⟨_,x⟩|⟨w,f⟩
  .cases x
  .exact⟨f,λx=>w (a.bT.diff q k s e f hk x)⟩
theorem oO.beh(k:aX (Kk Kq))(l:Nk (Kk Kq) v u E)(n:v<=t)(h:oO (Kk Kq) S A):cZ Kq wk S->vZ (Kk Kq) E t S->vZ (Kk Kq) E t A:=by
 induction h with
 |stop=>exact λ_ h=>h
 |@go S S' m hm _ ih=>
  intro a d;obtain⟨p,_⟩:=a.done k hm.1.ready (λq=>a.nsp m q hm.1) (a.bT.jb m);obtain⟨r,c,e,s⟩:=hm.1;refine ih p (d.done a (b:=S.busy) (λw x f=>⟨f,λy=>a.nsp m ⟨w,x,f,y⟩ hm.1⟩) c e ?_);obtain⟨C,z⟩:=d.led;rcases yC z c ⟨r,c,e⟩ with g|⟨i,D,j,B⟩
  .exact g
  .rw[i] at j;cases j;exact QK s (l.nsp t n m r i B)
theorem nD.beh(m:aX (Kk Kq))(f:Nk (Kk Kq) v u E)(i:v<=t)(h:nD (Kk Kq) t S A):(∀n,¬Sp (Kk Kq) S n)->cZ Kq wk S->vZ (Kk Kq) E t S->vZ (Kk Kq) E t A:=by
 induction h with
 |stop=>exact λ_ _ h=>h
 |@go S S' k n hk _ hn _ ih=>
  intro j c d;refine ih j (c.begin hk hn.1 j) ⟨d.led,λp q r s a=>?_⟩;rcases ib s with⟨_,x⟩|⟨_,x⟩
  .simp only[Ql] at x;subst x;have a:Qq S.T n=some r:=a;obtain⟨w,b,e⟩:=hn.1.1;rw[a] at b;cases b;obtain⟨C,y⟩:=d.led;have D:0<=aR (Kk Kq) n:=by rw[tQ];exact (lh m n).1
   rcases yC y a ⟨r,a,e⟩ with g|⟨b,w,l,z⟩
   .have B:=g.mvd (ze c.good.wf ⟨r,a,e⟩) (GY c.good.wf a e);exact (f.led t (t+aR (Kk Kq) n) i A7).mvd (d.led.wf c.good.wf) B
   .rw[b] at l;cases l;exact f.soon t i n r b z
  .exact d.bz p q r x a
theorem rX.beh(c:aX (Kk Kq))(m:JL (Kk Kq))(e:Nk (Kk Kq) v u E){x:Int}(h:rX (Kk Kq) t S x A):v<=t->cZ Kq wk S->sW t S->vZ (Kk Kq) E t S->v<=x/\Led (Kk Kq) (Qq A.T) (E x):=by
 have i:∀{t:Int}{S A:bP},mM (Kk Kq) t S A->v<=t->cZ Kq wk S->vZ (Kk Kq) E t S->vZ (Kk Kq) E t A:=λ⟨y,z,j,f,n⟩ a b d=>by
  have k:=(j.live c b).1;exact n.beh c e a f.busy.2 (f.live c k).1 (f.beh c e a k (j.beh c b d))
 induction h with
 |last h _=>exact λa b _ d=>⟨a,(i h a b d).led⟩
 |@next t t' x S S3 S' h ht hle _ ih=>
  intro a b p d;have q:=(h.rest b.bT.ok m p).1;obtain⟨r,s,w,B⟩:=ht;have C:t<t':=by have:=q.fin r s w;omega
  have l:=i h a b d;exact ih A7 (h.live c b).1 hle ⟨l.led.trans (e.led _ _ a A7),l.bz⟩
end
theorem Jf{Kq:List Qz}{Kj:List QV}{k m:Nat}{s t c1 x:List aU}{u v:Int}{y z:List Q_}(b:aX (Kk Kq))(a:1<=k)(B:1<=m)(C:Kq.length<=m)(D:DZ (Kk Kq) (b_ Kq Kj) k s u y c1)(g:DZ (Kk Kq) (b_ Kq Kj) m t v z x):v<=u:=by
 obtain⟨A,p,l,rfl,rfl,_,_⟩:=D;obtain⟨O,q,F,rfl,rfl,_,_⟩:=g;have c:=kr b Kj;have f:=EA b;have h:∀w,sW 0 (iR (b_ Kq Kj) w):=λw k e a=>QK a (jf _ _ k e)
 obtain⟨E,n,G,_⟩:=F.way b f C B (jk c) (h m) λk e a=>QK a (jf _ _ k e)
 obtain⟨H,P,j⟩:=l.beh b f n (Int.le_refl _) (jk (wk:=k) c) (h k) ⟨G,λk e Q a=>QK a (jf _ _ k e)⟩;obtain⟨_,I,J,K⟩:=l.tm b f (jk (wk:=k) c) (h k) (Bv c);have d:=yj I a J K;have L:E u=Qq A.T:=by
  revert j d
  generalize E u= τ;generalize Qq A.T=σ;intro j d;cases j with
  |here=>rfl
  |step _ _ i _ hi _=>exact QK hi (d i)
 refine Int.not_lt.1 λM=>?_
 obtain⟨N,r⟩:=n.busy u H M;rw[L] at r;exact d N r
open Go.RowKit
theorem mZ(w:QX){a tb:Nat}{x y:QV}(c:w.cell? ⟨a,0,none⟩=some (.string x))(hy:w.cell? ⟨tb,0,none⟩=some (.string y)):
  Calls prog 44 #[.h a,.h tb] w λe w'=>e=.returned (.bool (Op.bytesLess x.toList y.toList))/\K_ w w':=by
 go_enter func44,ntmps44
 go_wp2
 go_region
 all_goals
  go_wp2
  go_ret
  exact⟨rfl,(a_ w)⟩
theorem Af(w:QX){f tb:Nat}{x y:QV}{c d:Int}(i:w.cell? ⟨f,0,none⟩=some (.string x))(hy:w.cell? ⟨tb,0,none⟩=some (.string y))(n:w.cell? ⟨f,7,none⟩=some (.b c))(p:w.cell? ⟨tb,7,none⟩=some (.b d)):
  Calls prog 43 #[.h f,.h tb] w λe w'=>e=.returned (.bool (gZ c d x y))/\K_ w w':=by
 have⟨j,k⟩:=aJ i hy;by_cases a:c=d
 .have l:(c == d)=true:=by simpa using a
  have h:Hid (gZ c d x y=Op.bytesLess x.toList y.toList):=by show _=_;unfold gZ;rw[QI a]
  clear a;go_enter func43,ntmps43
  go_wp2
  go_region
  all_goals
   go_wp2_with fail
   refine (mZ w.drew j.o k.o).mono ?_;rintro e w1 ⟨rfl,m⟩;go_wp2
   go_ret
   exact⟨by rw[h.o];rfl,K_.trans (a_ w) m⟩
 .have l:(c == d)=false:=by simpa using a
  have h:Hid (gZ c d x y=decide (d<c)):=by show _=_;unfold gZ;rw[QJ a]
  clear a;go_enter func43,ntmps43
  go_wp2
  go_region
  all_goals
   go_wp2
   go_region
   all_goals
    go_wp2
    go_ret
    exact⟨by rw[h.o];rfl,(a_ w).drew⟩
theorem Eh(w:QX)(x y:Int):
  Calls prog 46 #[.b x,.b y] w λe w'=>e=.returned (.bool (decide (x<y)))/\K_ w w':=by
 go_enter func46,ntmps46
 go_wp2
 go_ret
 exact⟨rfl,K_.refl w⟩
theorem Tryz.Io :(prog.info? 125).map (λi=>(i.zero,i.size,i.bytes))=some (some (.agg #[.b 0,.b 0,.string ⟨#[]⟩,.pointer none,.b 0,.b 0,.b 0]),7,64):=C9
theorem Tryz.Iz :(prog.info? 125).map (·.size)=some 7:=C9
section
variable {loc:QV -> Nat}
def eH(loc:QV->Nat)(x:ig):List QY:=[.b (x).at',.b (x).worker,.string (x).name,.h (loc (x).name),.b (x).fin,.b (x).place,.b (x).cause]
def rf(loc:QV->Nat)(x:ig):QY:=.agg #[.b (x).at',.b (x).worker,.string (x).name,.h (loc (x).name),.b (x).fin,.b (x).place,.b (x).cause]
theorem G_(x:ig):(#[.b (x).at',.b (x).worker,.string (x).name,.h (loc (x).name),.b (x).fin,.b (x).place,.b (x).cause]:Array QY).all (·.oneCell')=true:=all_oneCell_toArray (cs:=eH loc x) (by simp[eH,Value.oneCell'])
def aW(u:QX)(g k:Nat)(loc:QV->Nat)(x:ig):Prop:=u.cell? ⟨g,k,none⟩=some (.b x.at')/\u.cell? ⟨g,k+1,none⟩=some (.b x.worker)/\u.cell? ⟨g,k+2,none⟩=some (.string x.name)/\u.cell? ⟨g,k+3,none⟩=some (.h (loc x.name))/\u.cell? ⟨g,k+4,none⟩=some (.b x.fin)/\u.cell? ⟨g,k+5,none⟩=some (.b x.place)/\u.cell? ⟨g,k+6,none⟩=some (.b x.cause)
theorem aW.cells{u b:QX}{g k:Nat}{x:ig}(h:aW u g k loc x)(a:∀j,b.cell? ⟨g,j,none⟩=u.cell? ⟨g,j,none⟩):aW b g k loc x:=by
 obtain⟨c,d,e,f,i,l,m⟩:=h;exact⟨(a _).trans c,(a _).trans d,(a _).trans e,(a _).trans f,(a _).trans i,(a _).trans l,(a _).trans m⟩
theorem aW.new(w:QX)(x:ig):aW (w.alloc (.cells #[.b (x).at',.b (x).worker,.string (x).name,.h (loc (x).name),.b (x).fin,.b (x).place,.b (x).cause] 125)) w.heap.size 0 loc x:=by
 have h:=X_ w #[.b (x).at',.b (x).worker,.string (x).name,.h (loc (x).name),.b (x).fin,.b (x).place,.b (x).cause] 125;exact⟨h 0 _ rfl,h 1 _ rfl,h 2 _ rfl,h 3 _ rfl,h 4 _ rfl,h 5 _ rfl,h 6 _ rfl⟩
variable {b o B n cap:Nat}{fn:QY}{f:Nat -> ig}{a:QW}
theorem aO.rU{w:QX}{g:Nat}(h:aO w b o B 125 7 (eH loc) fn f n (some ⟨g,0,none⟩) cap){i:Nat}(hi:i<n):aW w g (i*7) loc (f i):=
 ⟨h.at hi (j:=0) A7,h.at hi (j:=1) A7,h.at hi (j:=2) A7,h.at hi (j:=3) A7,h.at hi (j:=4) A7,h.at hi (j:=5) A7,h.at hi (j:=6) A7⟩
theorem aO.there{w:QX}{g:Nat}(h:aO w b o B 125 7 (eH loc) fn f n (some ⟨g,0,none⟩) cap){i:Nat}(hi:i<n):w.there g (i*7) 7/\aH w g 125 (cap*7):=by
 rcases h.row.2 with⟨e,_⟩|⟨p,q,d,e,_,j,r,_,k,_⟩
 .cases e
 .injection e with a s l;injection a with a;injection a with a;subst a l;have c:aH w g 125 (cap*7):=⟨d,j,k⟩;exact⟨c.row.there (o:=i*7) (m:=7) A7,c⟩
def OkE(loc:QV->Nat)(x:ig)(u:QX):Prop:=loc x.name<u.heap.size/\u.cell? ⟨loc x.name,0,none⟩=some (.string x.name)
theorem oV :nA 45 (rf loc) bF (OkE loc):=by
 intro x y w e f;obtain⟨d,a⟩:=aj ((w.alloc (.cells #[.b (x).at',.b (x).worker,.string (x).name,.h (loc (x).name),.b (x).fin,.b (x).place,.b (x).cause] 125)).alloc (.cells #[.b (y).at',.b (y).worker,.string (y).name,.h (loc (y).name),.b (y).fin,.b (y).place,.b (y).cause] 125));have b:K_ w d:=by rw[a];exact (ai w _).alloc _
 have j:aW d w.heap.size 0 loc x:=by rw[a];exact (aW.new w x).cells λt=>(ai _ _).cell A9
 have k:aW d (w.heap.size+1) 0 loc y:=by have:=aW.new (loc:=loc) (w.alloc (.cells #[.b (x).at',.b (x).worker,.string (x).name,.h (loc (x).name),.b (x).fin,.b (x).place,.b (x).cause] 125)) y;rw[Qh] at this;rw[a];exact this
 have l:=Kz ((b.cell (o:=0) e.1).trans e.2);have m:=Kz ((b.cell (o:=0) f.1).trans f.2);have i:=Kz b;obtain⟨_,_,_,n,p,_,_⟩:=j;obtain⟨_,_,_,q,r,_,_⟩:=k;simp only[Qb] at n q p r;clear e f b;by_cases c:x.fin=y.fin
 .have s:(x.fin == y.fin)=true:=by simpa using c
  have h:Hid (bF x y=Op.bytesLess x.name.toList y.name.toList):=by show _=_;unfold bF;rw[QI c]
  clear c;unfold rf;go_enter func45,ntmps45
  go_upto_region 1 with fail
  rw[<-a];clear a;go_wp2_with fail
  refine (mZ d l.o m.o).mono ?_;rintro v w1 ⟨rfl,b⟩;go_wp2
  go_ret
  exact⟨by rw[h.o];rfl,i.o.trans b⟩
 .have s:(x.fin == y.fin)=false:=by simpa using c
  have h:Hid (bF x y=decide (x.fin<y.fin)):=by show _=_;unfold bF;rw[QJ c]
  clear c;unfold rf;go_enter func45,ntmps45
  go_upto_region 1 with fail
  rw[<-a];clear a;go_wp2
  go_ret
  exact⟨by rw[h.o];rfl,i.o⟩
theorem zn(w:QX)(h:aO w b o B 125 7 (eH loc) fn f n a cap):
  Calls prog 52 #[.pointer (some ⟨b,o,none⟩)] w λe w'=>e=.returned (.bool (decide (n=0)))/\w'=w:=by
 have c:=h.c0;have d:((n:Int) == 0)=decide (n=0):=by
  by_cases e:n=0
  .subst e;rfl
  .rw[decide_eq_false e];simpa using e
 go_enter func52,ntmps52
 go_wp2
 go_ret
 exact⟨rfl,rfl⟩
theorem sG(w:QX)(h:aO w b o B 125 7 (eH loc) fn f n a cap)(c:0<n):
  Calls prog 53 #[.pointer (some ⟨b,o,none⟩)] w λe w'=>e=.returned (rf loc (f 0))/\K_ w w':=by
 obtain⟨g,rfl,s,t,v⟩:=h.pos c;have x:=h.c0;have y:=h.lt;obtain⟨d,i,j,k,l,m,p⟩:=h.rU c;simp only[Nat.zero_mul,Qb] at d i j k l m p;have z:(0:Int)<(n:Int):=A7;have q:=Kz (X_ w #[.b (f 0).at',.b (f 0).worker,.string (f 0).name,.h (loc (f 0).name),.b (f 0).fin,.b (f 0).place,.b (f 0).cause] 125);have r:=Kz ((K_.refl w).alloc (.cells #[.b (f 0).at',.b (f 0).worker,.string (f 0).name,.h (loc (f 0).name),.b (f 0).fin,.b (f 0).place,.b (f 0).cause] 125));go_enter func53,ntmps53
 go_wp2
 exact Zx [.b (f 0).at',.b (f 0).worker,.string (f 0).name,.h (loc (f 0).name),.b (f 0).fin,.b (f 0).place,.b (f 0).cause] _ results53 rfl q.o underlying125 rfl Tryz.Iz rfl ⟨rfl,r.o⟩
theorem uw(w:QX)(h:aO w b o B 125 7 (eH loc) fn f n a cap){i j:Nat}(hi:i<n)(q:j<n)(G:n<=1000000):
  Calls prog 121 #[.pointer (some ⟨b,o,none⟩),.b (i:Int),.b (j:Int)] w λe w'=>e=.returned (.tuple #[])/\aO w' b o B 125 7 (eH loc) fn (swp f i j) n a cap/\But (λx=>(Value.slice a n cap).ownBlock=some x) w w':=by
 obtain⟨g,rfl,v,H,I⟩:=h.pos A7;have A:Hid (∀u,K_ w u->(u.cell? ⟨b,o,none⟩=some (.c g n cap)/\aW u g (i*7) loc (f i)/\aW u g (j*7) loc (f j))):=λu k=>⟨(k.cell h.lt).trans h.c0,(h.rU hi).cells λ_=>k.cell v,(h.rU q).cells λ_=>k.cell v⟩
 have J:(i:Int)<(n:Int):=A7;have L:(j:Int)<(n:Int):=A7;obtain⟨r,s⟩:=aj w.drew;have t:K_ w r:=by rw[s];exact (a_ w)
 have C:=Kz s;clear s;have m:=h.kept t;obtain⟨w1,p⟩:=aj (r.setCells g (i*7) (eH loc (f j)));have y:aO w1 b o B 125 7 (eH loc) fn (λk=>if k=i then f j else f k) n (some ⟨g,0,none⟩) cap:=by rw[p];exact m.set hi (f j)
 have D:=Kz (m.there hi).1;have E:=Kz (y.there q).1;have z:Hid (aO (w1.setCells g (j*7) (eH loc (f i))) b o B 125 7 (eH loc) fn (swp f i j) n (some ⟨g,0,none⟩) cap/\But (λx=>(Value.slice (some ⟨g,0,none⟩) n cap).ownBlock=some x) w (w1.setCells g (j*7) (eH loc (f i)))):=by
  rw[p];exact⟨m.swap hi q,But.setCells (S:=λx=>(Value.slice (some ⟨g,0,none⟩) n cap).ownBlock=some x) rfl _ _ (But.setCells (S:=λx=>(Value.slice (some ⟨g,0,none⟩) n cap).ownBlock=some x) rfl _ _ (.ak t))⟩
 have F:Hid (w1=r.setCells g (i*7) #[.b (f j).at',.b (f j).worker,.string (f j).name,.h (loc (f j).name),.b (f j).fin,.b (f j).place,.b (f j).cause].toList):=p;clear h m y t p;go_enter func121,ntmps121
 go_wp2
 refine UpZ.region C9 (λu=>u.cell? ⟨b,o,none⟩=some (.c g n cap)/\aW u g (i*7) loc (f i)/\aW u g (j*7) loc (f j)) [25,27] (A.o _ (a_ w)) λd=>?_;rw[<-C.o] at d⊢;refine UpZ.tk 0 d ?_ (hy:=λu c=>by dsimp only[aW] at c;go_simp;try with_reducible rfl);refine UpZ.tk 1 d ?_ (hy:=λu c=>by dsimp only[aW] at c;go_simp;try with_reducible rfl);refine UpZ.tk 2 d ?_ (hy:=λu c=>by dsimp only[aW] at c;go_simp;try with_reducible rfl);refine UpZ.tk 3 d ?_ (hy:=λu c=>by dsimp only[aW] at c;go_simp;try with_reducible rfl);refine UpZ.tk 4 d ?_ (hy:=λu c=>by dsimp only[aW] at c;go_simp;try with_reducible rfl);refine UpZ.tk 5 d ?_ (hy:=λu c=>by dsimp only[aW] at c;go_simp;try with_reducible rfl);refine UpZ.tk 6 d ?_ (hy:=λu c=>by dsimp only[aW] at c;go_simp;try with_reducible rfl);refine UpZ.tk 7 d ?_ (hy:=λu c=>by dsimp only[aW] at c;go_simp;try with_reducible rfl);refine UpZ.tk 8 d ?_ (hy:=λu c=>by dsimp only[aW] at c;go_simp;try with_reducible rfl);refine UpZ.pu 9 ?_;refine UpZ.tk 10 d ?_ (hy:=λu c=>by dsimp only[aW] at c;go_simp;try with_reducible rfl);refine UpZ.tk 11 d ?_ (hy:=λu c=>by dsimp only[aW] at c;go_simp;try with_reducible rfl);refine UpZ.tk 12 d ?_ (hy:=λu c=>by dsimp only[aW] at c;go_simp;try with_reducible rfl);refine UpZ.tk 13 d ?_ (hy:=λu c=>by dsimp only[aW] at c;go_simp;try with_reducible rfl);refine UpZ.tk 14 d ?_ (hy:=λu c=>by dsimp only[aW] at c;go_simp;try with_reducible rfl);refine UpZ.tk 15 d ?_ (hy:=λu c=>by dsimp only[aW] at c;go_simp;try with_reducible rfl);refine UpZ.tk 16 d ?_ (hy:=λu c=>by dsimp only[aW] at c;go_simp;try with_reducible rfl);refine UpZ.tk 17 d ?_ (hy:=λu c=>by dsimp only[aW] at c;go_simp;try with_reducible rfl);refine UpZ.tk 18 d ?_ (hy:=λu c=>by dsimp only[aW] at c;go_simp;try with_reducible rfl);refine UpZ.tk 19 d ?_ (hy:=λu c=>by dsimp only[aW] at c;go_simp;try with_reducible rfl);refine UpZ.tk 20 d ?_ (hy:=λu c=>by dsimp only[aW] at c;go_simp;try with_reducible rfl);refine UpZ.tk 21 d ?_ (hy:=λu c=>by dsimp only[aW] at c;go_simp;try with_reducible rfl);refine UpZ.tk 22 d ?_ (hy:=λu c=>by dsimp only[aW] at c;go_simp;try with_reducible rfl);refine UpZ.tk 23 d ?_ (hy:=λu c=>by dsimp only[aW] at c;go_simp;try with_reducible rfl);refine UpZ.tk 24 d ?_ (hy:=λu c=>by dsimp only[aW] at c;go_simp;try with_reducible rfl);refine UpZ.nx 25 λK l=>?_;rw[if_pos D8];refine wp_store_mid 125 _ _ rfl g (i*7) #[.b (f j).at',.b (f j).worker,.string (f j).name,.h (loc (f j).name),.b (f j).fin,.b (f j).place,.b (f j).cause] D8 D8 D.o C9 (G_ _) ?_;rw[<-F.o];refine l.out _ _ (λh=>absurd A8 h) ?_;clear l K;try simp only[Act.put]
 refine UpZ.pu 26 ?_;refine UpZ.nx 27 λK l=>?_;rw[QI D8];refine wp_store_mid 125 _ _ rfl g (j*7) #[.b (f i).at',.b (f i).worker,.string (f i).name,.h (loc (f i).name),.b (f i).fin,.b (f i).place,.b (f i).cause] D8 D8 E.o C9 (G_ _) ?_;refine l.out _ _ (λh=>QK A8 h) ?_;clear l K;try simp only[Act.put]
 refine UpZ.dn ?_;go_wp2
 go_end0
 exact⟨rfl,z.o.1,z.o.2⟩
def dO(loc:QV->Nat)(b o g n cap:Nat)(f:Nat->ig)(q p:Nat)(u:QX):Prop:=u.cell? ⟨b,o+1,none⟩=some (.func (.func 45) #[] #[])/\u.cell? ⟨b,o,none⟩=some (.c g n cap)/\aW u g (q*7) loc (f q)/\aW u g (p*7) loc (f p)
theorem Je(w:QX)(r:aO w b o B 125 7 (eH loc) (.func (.func 45) #[] #[]) f n a cap)(x:∀i,i<n->∀u,K_ w u->OkE loc (f i) u){k:Nat}(M:k<=n)(N:n<=1000000):
  Calls prog 122 #[.pointer (some ⟨b,o,none⟩),.b (k:Int)] w λe w'=>e=.returned (.b (dU bF f n k:Nat))/\K_ w w':=by
 have⟨m,z⟩:=aJ r x;clear r x;go_enter func122,ntmps122
 go_wp2
 go_loopw [5,6] (λF y wr=>∃p q:Nat,F=.b (p:Int)/\y=.b (q:Int)/\Hid (oK bF f n k q p)/\Hid (K_ w wr)) λ_ y _=>2*k+3-(intOf y).toNat
 case atStart=>exact⟨k,2*k+1,rfl,C8,.inl ⟨rfl,rfl⟩,K_.refl w⟩
 case round=>
  obtain⟨p,q,rfl,rfl,s,l⟩:=hrel;have O:=(m.o.kept l.o).c0;by_cases G:q<=2*k+2/\q<n
  .have A:(q:Int)<=2*(k:Int)+2:=A7;have H:(q:Int)<(n:Int):=A7;obtain⟨g,rfl,P,Q,R⟩:=m.o.pos A7;have I:p<n:=by
    rcases s.o with⟨j,d⟩|⟨j,d⟩|⟨j,d⟩
    .omega
    .rw[d];unfold g_;split<;>omega
    .omega
   have S:(p:Int)<(n:Int):=A7;have J:Hid (∀u,K_ w u->dO loc b o g n cap f q p u):=λu k=>⟨((m.o.kept k)).c1,((m.o.kept k)).c0,(m.o.kept k).rU G.2,(m.o.kept k).rU I⟩
   go_wp2
   refine Qk.region C9 _ 18 (J.o _ (l.o.drew)) λh=>?_;refine ae 0 h ?_ (hy:=λu c=>by dsimp only[dO,aW] at c;go_simp;try with_reducible rfl);refine ae 1 h ?_ (hy:=λu c=>by dsimp only[dO,aW] at c;go_simp;try with_reducible rfl);refine ae 2 h ?_ (hy:=λu c=>by dsimp only[dO,aW] at c;go_simp;try with_reducible rfl);refine ae 3 h ?_ (hy:=λu c=>by dsimp only[dO,aW] at c;go_simp;try with_reducible rfl);refine ae 4 h ?_ (hy:=λu c=>by dsimp only[dO,aW] at c;go_simp;try with_reducible rfl);refine ae 5 h ?_ (hy:=λu c=>by dsimp only[dO,aW] at c;go_simp;try with_reducible rfl);refine ae 6 h ?_ (hy:=λu c=>by dsimp only[dO,aW] at c;go_simp;try with_reducible rfl);refine ae 7 h ?_ (hy:=λu c=>by dsimp only[dO,aW] at c;go_simp;try with_reducible rfl);refine ae 8 h ?_ (hy:=λu c=>by dsimp only[dO,aW] at c;go_simp;try with_reducible rfl);refine ae 9 h ?_ (hy:=λu c=>by dsimp only[dO,aW] at c;go_simp;try with_reducible rfl);refine ae 10 h ?_ (hy:=λu c=>by dsimp only[dO,aW] at c;go_simp;try with_reducible rfl);refine ae 11 h ?_ (hy:=λu c=>by dsimp only[dO,aW] at c;go_simp;try with_reducible rfl);refine ae 12 h ?_ (hy:=λu c=>by dsimp only[dO,aW] at c;go_simp;try with_reducible rfl);refine ae 13 h ?_ (hy:=λu c=>by dsimp only[dO,aW] at c;go_simp;try with_reducible rfl);refine ae 14 h ?_ (hy:=λu c=>by dsimp only[dO,aW] at c;go_simp;try with_reducible rfl);refine ae 15 h ?_ (hy:=λu c=>by dsimp only[dO,aW] at c;go_simp;try with_reducible rfl);refine ae 16 h ?_ (hy:=λu c=>by dsimp only[dO,aW] at c;go_simp;try with_reducible rfl);refine ae 17 h ?_ (hy:=λu c=>by dsimp only[dO,aW] at c;go_simp;try with_reducible rfl);refine aD 18 λK C=>?_;go_simp
   refine (oV (loc:=loc) (f q) (f p) _ (z.o q A7 _ l.o.drew) (z.o p A7 _ l.o.drew)).mono ?_;rintro e T ⟨rfl,L⟩;dsimp only;have D:=Kz (l.o.drew.trans L);refine af C (λr=>absurd rfl r) ?_;clear C K;refine aF ?_;cases t:bF (f q) (f p)
   .have v:Hid (oK bF f n k (q+1) p):=by
     rcases s.o with⟨j,d⟩|⟨j,d⟩|⟨j,d⟩
     .exact .inr (.inl ⟨A7,by unfold g_;rw[QJ (by rw[<-j,<-d,t];simp)];exact d⟩)
     .exact .inr (.inr ⟨A7,by unfold dU;rw[QJ (by rw[<-j,<-d,t];simp)];exact d⟩)
     .omega
    go_wp2
    go_roundw
    case rel=>exact⟨p,q+1,rfl,C8,v,D⟩
    case measure=>simp[intOf];omega
   .have v:Hid (oK bF f n k (q+1) q):=by
     rcases s.o with⟨j,d⟩|⟨j,d⟩|⟨j,d⟩
     .exact .inr (.inl ⟨A7,by unfold g_;rw[QI ⟨A7,by rw[<-j,<-d,t]⟩];exact j⟩)
     .exact .inr (.inr ⟨A7,by unfold dU;rw[QI ⟨A7,by rw[<-j,<-d,t]⟩];exact j⟩)
     .omega
    go_wp2
    go_roundw
    case rel=>exact⟨q,q+1,rfl,C8,v,D⟩
    case measure=>simp[intOf];omega
  .have E:Hid (p=dU bF f n k):=by
    show _=_;rcases s.o with⟨j,d⟩|⟨j,d⟩|⟨j,d⟩
    .unfold dU g_;rw[QJ A7,QJ A7];exact d
    .unfold dU;rw[QJ A7];exact d
    .exact d
   by_cases U:q<=2*k+2
   .have A:(q:Int)<=2*(k:Int)+2:=A7;have H:¬(q:Int)<(n:Int):=A7;go_wp2
    go_ret
    exact⟨by rw[E.out];rfl,l.o⟩
   .have A:¬(q:Int)<=2*(k:Int)+2:=A7;go_wp2
    go_ret
    exact⟨by rw[E.out];rfl,l.o⟩
theorem Mm(w:QX)(h:aO w b o B 125 7 (eH loc) (.func (.func 45) #[] #[]) f n a cap)(x:ig)(a4:∀H u,(H=x\/iJ f n H)->But (λG=>G=b\/(Value.slice a n cap).ownBlock=some G) w u->OkE loc H u)(hn:n<1000000)(hB:B<=w.heap.size):
  Calls prog 126 #[.pointer (some ⟨b,o,none⟩),rf loc x] w λe w'=>e=.returned (.tuple #[])/\∃a' cap',aO w' b o B 125 7 (eH loc) (.func (.func 45) #[] #[]) (iO bF f n x) (n+1) a' cap'/\ToH w w' b o a n cap a' (n+1) cap':=by
 obtain⟨ie,b7,b8,b9,c0⟩:=info_parts Tryz.Io;have⟨HM,a5⟩:=aJ h a4;have N:=h.lt;obtain⟨t0,m0,a6,e0⟩:=h.blk;obtain⟨D,O⟩:=aj (w.alloc (.cells #[.b (x).at',.b (x).worker,.string (x).name,.h (loc (x).name),.b (x).fin,.b (x).place,.b (x).cause] 125));have X:K_ w D:=by rw[O];exact ai w _
 have Y:aW D w.heap.size 0 loc x:=by rw[O];exact aW.new w x
 have a7:w.heap.size<D.heap.size:=by rw[O];simp
 have Z:Hid (∀u,K_ D u->(u.cell? ⟨b,o,none⟩=some (.slice a n cap)/\aW u w.heap.size 0 loc x)):=λu I=>⟨((X.trans I).cell N).trans h.c0,Y.cells λ_=>I.cell a7⟩
 obtain⟨F,a0⟩:=aj D.drew;have kd:K_ D F:=by rw[a0];exact (a_ D)
 have c2:=Kz a0;have V:K_ D (F.alloc (.cells #[.b (x).at',.b (x).worker,.string (x).name,.h (loc (x).name),.b (x).fin,.b (x).place,.b (x).cause] 125)):=kd.alloc _;have a8:=Kz V;have P:=X.trans V;have c3:=Kz (ay h.row P);have c4:Hid (∀j u,([.b (x).at',.b (x).worker,.string (x).name,.h (loc (x).name),.b (x).fin,.b (x).place,.b (x).cause]:List QY)[j]? =some u->(F.alloc (.cells #[.b (x).at',.b (x).worker,.string (x).name,.h (loc (x).name),.b (x).fin,.b (x).place,.b (x).cause] 125)).cell? ((⟨F.heap.size,0,none⟩:Addr).add j)=some u):=λj u hj=>by rw[Qo];exact X_ F #[.b (x).at',.b (x).worker,.string (x).name,.h (loc (x).name),.b (x).fin,.b (x).place,.b (x).cause] 125 j u hj
 have c5:Hid (∀u∈([.b (x).at',.b (x).worker,.string (x).name,.h (loc (x).name),.b (x).fin,.b (x).place,.b (x).cause]:List QY),u.oneCell'=true):=λu c=>h.one x u c
 have c6:Hid (n+1<=maxLen):=I5;have c7:Hid ((n+1)*64<=140737488355328):=I4;have c8:Hid (B<=(F.alloc (.cells #[.b (x).at',.b (x).worker,.string (x).name,.h (loc (x).name),.b (x).fin,.b (x).place,.b (x).cause] 125)).heap.size):=Pz hB P.size;have c9:Hid (∀m z (w1:QX),w1.ownsRow B 125 7 (.c m (n+1) z) (n+1) (bN (eH loc) f n++[.b (x).at',.b (x).worker,.string (x).name,.h (loc (x).name),.b (x).fin,.b (x).place,.b (x).cause])->(F.alloc (.cells #[.b (x).at',.b (x).worker,.string (x).name,.h (loc (x).name),.b (x).fin,.b (x).place,.b (x).cause] 125)).grownBy w1 (Value.slice a n cap).ownBlock->((Value.slice a n cap).ownBlock=some m\/m= (F.alloc (.cells #[.b (x).at',.b (x).worker,.string (x).name,.h (loc (x).name),.b (x).fin,.b (x).place,.b (x).cause] 125)).heap.size)->
   (aO (w1.setCell ⟨b,o,none⟩ (.c m (n+1) z)) b o B 125 7 (eH loc) (.func (.func 45) #[] #[]) (λi=>if i=n then x else f i) (n+1) (some ⟨m,0,none⟩) z/\ToH w (w1.setCell ⟨b,o,none⟩ (.c m (n+1) z)) b o a n cap (some ⟨m,0,none⟩) (n+1) z)/\w1.frozen? ⟨b,o,none⟩=false/\(w1.cell? ⟨b,o,none⟩=some (.slice a n cap)/\aW w1 w.heap.size 0 loc x)/\∃a1,w1.cell? ⟨b,o,none⟩=some a1):=λm z w1 d0 a9 b0=>by
  have kk:But (λG=>(Value.slice a n cap).ownBlock=some G) w w1:=(But.ak P).trans (.aI a9 λ_ h=>h);have d1:But (λG=>(Value.slice a n cap).ownBlock=some G) D w1:=(But.ak V).trans (.aI a9 λ_ h=>h);have e1:=P.size;have d2:(Value.slice (some ⟨m,0,none⟩) (n+1) z).ownBlock≠some b:=λe=>by
   have Q:m=b:=by injection e
   rcases b0 with R|R
   .exact h.ne (by rw[R,Q])
   .omega
  have d3:(Value.slice a n cap).ownBlock≠some w.heap.size:=λe=>by have:=(h.row.lt _ e).2;omega
  have ho:w1.ownsRow B 125 7 (.c m (n+1) z) (n+1) (bN (eH loc) (λi=>if i=n then x else f i) (n+1)):=by
   have Q:bN (eH loc) (λi=>if i=n then x else f i) (n+1)=bN (eH loc) f n++eH loc x:=by
    simp only[bN,if_true];rw[iA λi hi=>by rw[QJ A7]]
   rw[Q];exact d0
  obtain⟨j1,j2,j3,j4⟩:=h.told kk ho d2;have d4:=kk.row a6 h.ne;obtain⟨⟨a1,x0⟩,f0⟩:=d4.row.at (i:=o) A7;refine⟨⟨j1,j2,j3,j4,λG hz=>?_⟩,f0,⟨(kk.cell N h.ne).trans h.c0,Y.cells λ_=>d1.cell a7 d3⟩,a1,x0⟩;have Q:m=G:=by injection hz
  subst Q;rcases b0 with R|R
  .exact .inl R
  .exact .inr A7
 have d5:=Kz O;clear h a4 a6 X Y kd V P a0 O;unfold rf;go_enter func126,ntmps126
 go_wp2
 rw[<-d5.o];refine tu 10 Z.o (a_ D) λd=>?_;rw[<-c2.o] at d⊢;refine ae 0 d ?_ (hy:=λu c=>by obtain⟨J,⟨L,q,r,s,t,v,y⟩⟩:=c;simp only[Qb] at q r s t v y;go_simp;try with_reducible rfl);refine ae 1 d ?_ (hy:=λu c=>by obtain⟨J,⟨L,q,r,s,t,v,y⟩⟩:=c;simp only[Qb] at q r s t v y;go_simp;try with_reducible rfl);refine ae 2 d ?_ (hy:=λu c=>by obtain⟨J,⟨L,q,r,s,t,v,y⟩⟩:=c;simp only[Qb] at q r s t v y;go_simp;try with_reducible rfl);refine ae 3 d ?_ (hy:=λu c=>by obtain⟨J,⟨L,q,r,s,t,v,y⟩⟩:=c;simp only[Qb] at q r s t v y;go_simp;try with_reducible rfl);refine ae 4 d ?_ (hy:=λu c=>by obtain⟨J,⟨L,q,r,s,t,v,y⟩⟩:=c;simp only[Qb] at q r s t v y;go_simp;try with_reducible rfl);refine ae 5 d ?_ (hy:=λu c=>by obtain⟨J,⟨L,q,r,s,t,v,y⟩⟩:=c;simp only[Qb] at q r s t v y;go_simp;try with_reducible rfl);refine aD 6 λK A=>?_;go_simp
 refine af A (λ_=>Z.o _ a8.o) ?_;clear A K d;have d:=Z.o _ a8.o;refine aD 7 λK A=>?_;refine wp_append_lies _ (.tmp 10) (.tmp 12) 109 rfl B 125 ie (.agg #[.b 0,.b 0,.string ⟨#[]⟩,.pointer none,.b 0,.b 0,.b 0]) 7 64 underlying109 b7 b8 b9 c0 rfl A8 (.slice a n cap) n _ rfl c3.o ⟨F.heap.size,0,none⟩ 1 1 [.b (x).at',.b (x).worker,.string (x).name,.h (loc (x).name),.b (x).fin,.b (x).place,.b (x).cause] rfl rfl c4.o c5.o A8 c6.o c7.o c8.o _ rfl ?_;intro m z w1 b1 b2 b3 _;obtain⟨hJ,f0,a2,v0,x0⟩:=c9.o m z w1 b1 b2 b3;have HJ:=Kz hJ;clear b1 b2 b3 hJ;refine af A (λ_=>a2) ?_;clear A K d;have d:=a2;clear a2;refine ae 8 d ?_ (hy:=λu c=>by obtain⟨J,⟨L,q,r,s,t,v,y⟩⟩:=c;simp only[Qb] at q r s t v y;go_simp;try with_reducible rfl);refine ae 9 d ?_ (hy:=λu c=>by obtain⟨J,⟨L,q,r,s,t,v,y⟩⟩:=c;simp only[Qb] at q r s t v y;go_simp;try with_reducible rfl);refine aD 10 λK A=>?_;go_simp
 refine af A (λh=>QK rfl h) ?_;clear A K;refine aF ?_;go_wp2
 generalize d6:w1.setCell ⟨b,o,none⟩ (.c m (n+1) z)=w2 at HJ⊢;clear d6 f0 x0 v0;go_loopw [4] (λH wr=>∃(k E:Nat)(l:Nat->ig),H=.b (k:Int)/\k<=n/\k<=E/\Hid (aO wr b o B 125 7 (eH loc) (.func (.func 45) #[] #[]) l (n+1) (some ⟨m,0,none⟩) z)/\Hid (upF bF E l k=iO bF f n x)/\Hid (∀i,i<n+1->l i=x\/iJ f n (l i))/\Hid (ToH w wr b o a n cap (some ⟨m,0,none⟩) (n+1) z)) λH _=>(intOf H).toNat
 case atStart=>
  refine⟨n,n,λi=>if i=n then x else f i,C8,Pw _,Pw _,HJ.o.1,rfl,λi hi=>?_,HJ.o.2⟩;by_cases e:i=n
  .exact .inl (QI e)
  .exact .inr ⟨i,A7,by simp only[QJ e]⟩
 case round=>
  obtain⟨k,E,l,rfl,hk,hm,C,HU,S,W⟩:=hrel;have e2:=C.o.c0;by_cases a3:k=0
  .subst a3;have T:Hid (l=iO bF f n x):=by
    show _=_;rw[<-HU.o];cases E<;>simp[upF]
   go_wp2
   go_end0
   exact⟨rfl,_,_,by rw[<-T.o];exact C.o,W.o⟩
  .obtain⟨E,rfl⟩:∃m',E=m'+1:=⟨E-1,A7⟩;obtain⟨p,U⟩:=aj (bW k);have e3:p<k:=by rw[U];unfold bW;omega
   have e4:((k:Int)-1).tdiv 2= (p:Int):=by rw[U];unfold bW;rw[Int.tdiv_eq_ediv_of_nonneg A7];omega
   have e5:((k:Int)-1) / 2= (p:Int):=by rw[U];unfold bW;omega
   have e6:(0:Int)<(k:Int):=A7;have e7:(k:Int)<(n:Int)+1:=A7;have e8:(p:Int)<(n:Int)+1:=A7;have b4:Hid (if bF (l k) (l p)=true then upF bF E (swp l k p) p=iO bF f n x else l=iO bF f n x):=by
    have e:=HU.o;simp only[upF,QJ a3] at e;rw[<-U] at e;show if _ then _ else _
    split
    .next g=>rw[QI g] at e;exact e
    .next g=>rw[QJ g] at e;exact e
   have b5:=Kz W.o.but;have HH:Hid (∀u,K_ wr u->dO loc b o m (n+1) z l k p u):=λu I=>⟨((C.o.kept I)).c1,((C.o.kept I)).c0,(C.o.kept I).rU A7,(C.o.kept I).rU A7⟩
   clear U a3;go_wp2
   refine Qk.region C9 _ 19 (HH.o _ (a_ _)) λd=>?_;refine ae 0 d ?_ (hy:=λu c=>by dsimp only[dO,aW] at c;go_simp;try with_reducible rfl);refine ae 1 d ?_ (hy:=λu c=>by dsimp only[dO,aW] at c;go_simp;try with_reducible rfl);refine ae 2 d ?_ (hy:=λu c=>by dsimp only[dO,aW] at c;go_simp;try with_reducible rfl);refine ae 3 d ?_ (hy:=λu c=>by dsimp only[dO,aW] at c;go_simp;try with_reducible rfl);refine ae 4 d ?_ (hy:=λu c=>by dsimp only[dO,aW] at c;go_simp;try with_reducible rfl);refine ae 5 d ?_ (hy:=λu c=>by dsimp only[dO,aW] at c;go_simp;try with_reducible rfl);refine ae 6 d ?_ (hy:=λu c=>by dsimp only[dO,aW] at c;go_simp;try with_reducible rfl);refine ae 7 d ?_ (hy:=λu c=>by dsimp only[dO,aW] at c;go_simp;try with_reducible rfl);refine ae 8 d ?_ (hy:=λu c=>by dsimp only[dO,aW] at c;go_simp;try with_reducible rfl);refine ae 9 d ?_ (hy:=λu c=>by dsimp only[dO,aW] at c;go_simp;try with_reducible rfl);refine ae 10 d ?_ (hy:=λu c=>by dsimp only[dO,aW] at c;go_simp;try with_reducible rfl);refine ae 11 d ?_ (hy:=λu c=>by dsimp only[dO,aW] at c;go_simp;try with_reducible rfl);refine ae 12 d ?_ (hy:=λu c=>by dsimp only[dO,aW] at c;go_simp;try with_reducible rfl);refine ae 13 d ?_ (hy:=λu c=>by dsimp only[dO,aW] at c;go_simp;try with_reducible rfl);refine ae 14 d ?_ (hy:=λu c=>by dsimp only[dO,aW] at c;go_simp;try with_reducible rfl);refine ae 15 d ?_ (hy:=λu c=>by dsimp only[dO,aW] at c;go_simp;try with_reducible rfl);refine ae 16 d ?_ (hy:=λu c=>by dsimp only[dO,aW] at c;go_simp;try with_reducible rfl);refine ae 17 d ?_ (hy:=λu c=>by dsimp only[dO,aW] at c;go_simp;try with_reducible rfl);refine aD 18 λK A=>?_;go_simp
   refine (oV (loc:=loc) (l k) (l p) _ (a5.o _ _ (S.o k A7) (b5.o.trans (.ak (a_ _)))) (a5.o _ _ (S.o p A7) (b5.o.trans (.ak (a_ _))))).mono ?_;rintro e w8 ⟨rfl,k8⟩;dsimp only;have M:=Kz ((K_.refl wr).drew.trans k8);refine af A (λ_=>HH.o _ M.o) ?_;clear A K d;have d:=HH.o _ M.o;refine aD 19 λK A=>?_;go_simp
   refine af A (λh=>QK rfl h) ?_;clear A K;refine aF ?_;cases hx:bF (l k) (l p)
   .have T:=Kz (show l=iO bF f n x by have e:=b4.o;rw[hx] at e;simpa using e);go_wp2
    try simp only[Exit.inBlock,Exit.then]
    refine bodyPost_ret (results_none rfl _ _ _) rfl ?_;exact⟨rfl,_,_,by rw[<-T.o];exact C.o.kept M.o,W.o.next (.ak M.o) N (C.o.ne)⟩
   .have T:=Kz (show upF bF E (swp l k p) p=iO bF f n x by have e:=b4.o;rw[hx] at e;simpa using e);go_wp2_with fail
    refine (uw _ (C.o.kept M.o) (i:=k) (j:=p) A7 A7 A7).mono ?_;rintro e w9 ⟨rfl,b6,k9⟩;have d7:=Kz b6;have d8:=Kz ((W.o.next (.ak M.o) N (C.o.ne)).next k9 N (C.o.ne));have d9:Hid (∀i,i<n+1->swp l k p i=x\/iJ f n (swp l k p i)):=λi hi=>by
     unfold swp
     split
     .exact S.o p A7
     .split
      .exact S.o k A7
      .exact S.o i hi
    clear b6 k9;go_wp2
    go_roundw
    case rel=>exact⟨p,E,swp l k p,rfl,A7,A7,d7,T,d9,d8⟩
    case measure=>simp[intOf];omega
theorem Jl(w:QX)(h:aO w b o B 125 7 (eH loc) (.func (.func 45) #[] #[]) f (n+1) a cap)(a0:∀D u,iJ f (n+1) D->But (λz=>z=b\/(Value.slice a (n+1) cap).ownBlock=some z) w u->OkE loc D u)(hn:n<1000000):
  Calls prog 91 #[.pointer (some ⟨b,o,none⟩)] w λe w'=>e=.returned (rf loc (f 0))/\aO w' b o B 125 7 (eH loc) (.func (.func 45) #[] #[]) (fP bF f n) n a cap/\ToH w w' b o a (n+1) cap a n cap:=by
 obtain⟨g,rfl,c7,c8,c9⟩:=h.pos A7;have⟨HM,b0⟩:=aJ h a0;have a3:=h.lt;have a4:=h.ne;have d0:(n:Int)<=(cap:Int):=A7;have d1:(n:Int)+1-1= (n:Int):=A7;obtain⟨R,J⟩:=aj (w.alloc (.cells #[.b 0,.b 0,.string ⟨#[]⟩,.pointer none,.b 0,.b 0,.b 0] 125));have T:Hid (K_ w R):=by rw[J];exact ai w _
 have b1:Hid (aH R w.heap.size 125 7):=by rw[J];exact aH.made w _ _
 clear h a0;go_enter func91,ntmps91
 go_wp2_with fail
 rw[<-J];clear J;refine (sG R (HM.o.kept T.out) A7).mono ?_;rintro e l ⟨rfl,K⟩;unfold rf;obtain⟨v,H⟩:=aj (l.alloc (.cells #[.b (f 0).at',.b (f 0).worker,.string (f 0).name,.h (loc (f 0).name),.b (f 0).fin,.b (f 0).place,.b (f 0).cause] 125));have y:K_ l v:=by rw[H];exact ai l _
 have HB:Hid (aW v l.heap.size 0 loc (f 0)):=by rw[H];exact aW.new l (f 0)
 have b2:Hid (l.heap.size<v.heap.size):=by show _<_;rw[H];simp
 have E:=Kz ((T.out.trans K).trans y);have b3:=Kz ((b1.o.kept K).kept y);have d2:=(T.out.trans K).size;have L:=HM.o.kept E.out;have c0:=L.c0;have M:=L.lt;have d3:=E.out.size;have b4:Hid (∀w1:QX,aO w1 b o B 125 7 (eH loc) (.func (.func 45) #[] #[]) (swp f 0 n) (n+1) (some ⟨g,0,none⟩) cap->But (λx=>(Value.slice (some ⟨g,0,none⟩) (n+1) cap).ownBlock=some x) v w1->
   (aO (w1.setCell ⟨b,o,none⟩ (.c g n cap)) b o B 125 7 (eH loc) (.func (.func 45) #[] #[]) (swp f 0 n) n (some ⟨g,0,none⟩) cap/\ToH v (w1.setCell ⟨b,o,none⟩ (.c g n cap)) b o (some ⟨g,0,none⟩) (n+1) cap (some ⟨g,0,none⟩) n cap)/\w1.frozen? ⟨b,o,none⟩=false):=λw1 N y=>by
  obtain⟨j1,j2,j3,j4⟩:=N.told (.ak (K_.refl w1)) (uE (λ_=>rfl) N.row) N.ne;obtain⟨t0,m0,b5,d4⟩:=N.blk;refine⟨⟨j1,⟨?_,λi p=>(j3 i p).trans (y.cell M a4),λt m U=>j4 t m (y.row U a4),λx r=>.inl r⟩⟩,(b5.row.at (i:=o) A7).2⟩;exact (y.mono λ_ _ h=>.inr h).trans j2
 clear K y;go_upto_region 2 with fail
 rw[<-H];clear H;go_wp2_with fail
 refine (uw v L (i:=0) (j:=n) A7 A7 A7).mono ?_;rintro e w1 ⟨rfl,V,k2⟩;obtain⟨hJ,f0⟩:=b4.o w1 V k2;have W:=Kz hJ;have c1:=V.c0;clear V k2 hJ c0 L;go_wp2
 generalize b6:w1.setCell ⟨b,o,none⟩ (.c g n cap)=w2 at W⊢;clear b6 f0 c1;go_loopw [5] (λD wr=>∃(k m:Nat)(c:Nat->ig),D=.b (k:Int)/\k<=n/\(k<n\/n=0)/\n<=k+m/\Hid (aO wr b o B 125 7 (eH loc) (.func (.func 45) #[] #[]) c n (some ⟨g,0,none⟩) cap)/\Hid (jJ bF m c n k=fP bF f n)/\Hid (∀i,i<n->iJ f (n+1) (c i))/\Hid (ToH v wr b o (some ⟨g,0,none⟩) (n+1) cap (some ⟨g,0,none⟩) n cap)) λD _=>n-(intOf D).toNat
 case atStart=>
  refine⟨0,n,swp f 0 n,rfl,A7,A7,A7,W.o.1,rfl,λi p=>?_,W.o.2⟩;unfold swp
  split
  .exact⟨n,A7,rfl⟩
  .split
   .omega
   .exact⟨i,A7,rfl⟩
 case round=>
  obtain⟨k,m,c,rfl,hk,d5,hm,F,HD,O,X⟩:=hrel;go_wp2_with fail
  refine (Je wr F.o (λi p u ku=>b0.o _ u (O.o i p) (((But.ak E.out).trans X.o.but).trans (.ak ku))) hk A7).mono ?_;rintro e s ⟨rfl,k8⟩;have P:=Kz k8;clear k8;obtain⟨q,A⟩:=aj (dU bF c n k);rw[<-A];by_cases G:q=k
  .have Y:=Kz (show c=fP bF f n by
    have e:=HD.o;cases m with
    |zero=>exact e
    |succ m=>simp only[jJ] at e;rw[QI (A.symm.trans G)] at e;exact e)
   have e0:((q:Int) == (k:Int))=true:=by rw[G];simp
   clear G A;have I:=Kz (X.o.next (.ak P.o) M (F.o.ne));have b7:¬(l.heap.size=b\/(Value.slice (some ⟨g,0,none⟩) (n+1) cap).ownBlock=some l.heap.size):=by
    rintro (e|e)
    .omega
    .have Q:g=l.heap.size:=by injection e
     omega
   have b8:¬(w.heap.size=b\/(Value.slice (some ⟨g,0,none⟩) (n+1) cap).ownBlock=some w.heap.size):=by
    rintro (e|e)
    .omega
    .have Q:g=w.heap.size:=by injection e
     omega
   obtain⟨a1,a2,b9,c2,a5,a6,a7⟩:=HB.o.cells λ_=>I.o.but.cell b2.o b7;simp only[Qb] at a1 a2 b9 c2 a5 a6 a7;have a8:=Kz (I.o.but.row b3.o b8);have c3:=Kz (PD s w.heap.size 0 (eH loc (f 0)) (a8.o.row.there (o:=0) (m:=7) (Pw _)));have c4:Hid (aO (s.setCells w.heap.size 0 (eH loc (f 0))) b o B 125 7 (eH loc) (.func (.func 45) #[] #[]) (fP bF f n) n (some ⟨g,0,none⟩) cap):=by
    rw[<-Y.o];exact (F.o.kept P.o).but (But.setCells (S:=λx=>x=w.heap.size) (g:=w.heap.size) rfl (eH loc (f 0)) 0 (.ak (K_.refl s))) (λe=>A7) (λx r e=>by
     have Q:g=x:=by injection r
     omega)
   have Z:Hid (ToH w (s.setCells w.heap.size 0 (eH loc (f 0))) b o (some ⟨g,0,none⟩) (n+1) cap (some ⟨g,0,none⟩) n cap):=by
    have d:But (λx=>x=w.heap.size) s (s.setCells w.heap.size 0 (eH loc (f 0))):=But.setCells (S:=λx=>x=w.heap.size) (g:=w.heap.size) rfl (eH loc (f 0)) 0 (.ak (K_.refl s));have C:=(But.ak E.out).trans I.o.but;refine⟨⟨d.os.trans C.os,d.tape.trans C.tape,d.output.trans C.output,Pz C.size d.size,λx r hn=>(d.block x (Px r C.size) A7).trans (C.block x r hn)⟩,λi p=>?_,λt m U=>d.row (I.o.row t m (U.kept E.out)) A7,λx r=>.inl r⟩;rw[d.cell (Px a3 C.size) A7,I.o.oth i p];exact E.out.cell a3
   obtain⟨⟨⟨_,y0⟩,g0⟩,⟨⟨_,y1⟩,g1⟩,⟨⟨_,y2⟩,g2⟩,⟨⟨_,y3⟩,g3⟩,⟨⟨_,y4⟩,g4⟩,⟨⟨_,y5⟩,g5⟩,⟨_,y6⟩,g6⟩:=a8.o.row.all7;go_wp2
   exact Zx (eH loc (f 0)) _ results91 rfl c3.o underlying125 rfl Tryz.Iz rfl ⟨rfl,c4.o,Z.o⟩
  .have d6:q<n/\k<q:=by
    rcases mV (ah:=bF) c n k with e|⟨e,Q⟩|⟨e,Q⟩
    .exact QK (A.trans e) G
    .omega
    .omega
   obtain⟨m,rfl⟩:∃m',m=m'+1:=⟨m-1,A7⟩;have Y:=Kz (show jJ bF m (swp c k q) n q=fP bF f n by
    have e:=HD.o;simp only[jJ] at e;rw[QJ λx=>G (A.trans x),<-A] at e;exact e)
   have e0:((q:Int) == (k:Int))=false:=by
    have:¬(q:Int)= (k:Int):=A7;simpa using this
   clear G A;go_wp2_with fail
   refine (uw s (F.o.kept P.o) (i:=k) (j:=q) A7 A7 A7).mono ?_;rintro e w9 ⟨rfl,a9,d⟩;have c5:=Kz a9;have Z:=Kz ((X.o.next (.ak P.o) M (F.o.ne)).next d M (F.o.ne));have c6:Hid (∀i,i<n->iJ f (n+1) (swp c k q i)):=λi p=>by
    unfold swp
    split
    .exact O.o q A7
    .split
     .exact O.o k A7
     .exact O.o i p
   clear a9 d;go_wp2
   go_roundw
   case rel=>exact⟨q,m,swp c k q,rfl,A7,A7,A7,c5,Y,c6,Z⟩
   case measure=>simp[intOf];omega
end
def aU.zero :aU:=⟨0,0,⟨#[]⟩⟩
def aU.cells(r:aU):List QY:=[.b r.at',.b (r.worker:Int),.string r.name]
def Ep(w:QX)(a:QW)(l:List aU):Prop:=
 ∀i,i<l.length->∃b o,a=some ⟨b,o,none⟩/\b<w.heap.size/\w.rangeAt b (o+i*3) (l.getD i aU.zero).cells
variable {l:List aU}{a:QW}{w:QX}
theorem Ep.kept{w':QX}(h:Ep w a l)(k:K_ w w'):Ep w' a l:=by
 intro i c;obtain⟨d,o,e,b,f⟩:=h i c;exact⟨d,o,e,Px b k.size,k.range b f⟩
def jS(w:QX)(lo hi:Nat)(a:QW)(l:List aU):Prop:=
 l=[]\/∃b,a=some ⟨b,0,none⟩/\lo<=b/\b<hi/\Row w b (l.length*3)/\∀i,i<l.length->w.rangeAt b (i*3) (l.getD i aU.zero).cells
variable {hi lo:Nat}
theorem jS.same{w':QX}(h:jS w lo hi a l)(k:Same lo hi w w'):jS w' lo hi a l:=by
 rcases h with h|⟨b,f,c,d,e,i⟩
 .exact .inl h
 .exact .inr ⟨b,f,c,d,k.row c d e,λj hi=>k.range c d e.lt (i j hi)⟩
theorem jS.mono{c d:Nat}(h:jS w lo hi a l)(j:c<=lo)(h2:hi<=d):jS w c d a l:=by
 rcases h with h|⟨b,e,k,m,f,i⟩
 .exact .inl h
 .exact .inr ⟨b,e,A7,A7,f,i⟩
theorem jS.Pm(h:jS w lo hi a l):Ep w a l:=by
 rcases h with rfl|⟨b,c,f,j,d,e⟩
 .intro i hi;simp at hi
 .intro i hi;exact⟨b,0,c,d.lt,by rw[Qb];exact e i hi⟩
structure xC where
 code:Int
 slots:List aU
 fe:Int
 out:Ao
 chain:List aU
section
variable (code fe oc dZ cost:Int) (slots chain:List aU) (res:List fE) (och:List QV)
structure sw (w:QX)(lo m1 m2 m3 hi:Nat)(sa ra fa ca:QW)(slots:List aU)(res:List fE)(och:List QV)(chain:List aU):Prop where
 sl:jS w lo m1 sa slots
 rs:iQ w m1 m2 ra res
 ch:iM w m2 m3 fa och
 cn:jS w m3 hi ca chain
 l1:lo<=m1
 l2:m1<=m2
 l3:m2<=m3
 l4:m3<=hi
theorem sw.same{slots:List aU}{res:List fE}{och:List QV}{chain:List aU}{w':QX}{a b c:Nat}{d e f i:QW}(h:sw w lo a b c hi d e f i slots res och chain)(k:Same lo hi w w'):sw w' lo a b c hi d e f i slots res och chain:=by
 have j:=h.l1;have l:=h.l2;have m:=h.l3;have n:=h.l4;exact⟨h.sl.same (k.mono (Pw _) A7),h.rs.same (k.mono A7 A7),h.ch.same (k.mono A7 A7),h.cn.same (k.mono A7 (Pw _)),j,l,m,n⟩
end
def kF :xC:=⟨9,[],0,⟨0,[],[],0,0⟩,[]⟩
def qN(Kq:List Qz)(Kj:List QV)(k:Int)(p:xC):Prop:=
 (p.slots.length<=3000/\p.out.res.length<=10/\p.out.chain.length<=60/\p.chain.length<=3000)/\
 (((bC Kq 0/\fJ Kj/\1<=k/\k<=60)/\p.code=0/\∃T,DZ (Kk Kq) (b_ Kq Kj) k.toNat p.slots p.fe T p.chain/\sM Kq Kj T p.out)\/
  (¬(bC Kq 0/\fJ Kj/\1<=k/\k<=60)/\p=kF))
def Fp(P:xC->Prop)(w w':QX)(e:Ending):Prop:=
 ∃(p:xC)(sa ra fa ca:QW)(sc rc fc cc m1 m2 m3:Nat),e=.returned (.agg #[.b p.code,.slice sa p.slots.length sc,.b p.fe,.b p.out.code,.slice ra p.out.res.length rc,.slice fa p.out.chain.length fc,.b p.out.dZ,.b p.out.cost,.slice ca p.chain.length cc])/\P p/\sw w' w.heap.size m1 m2 m3 w'.heap.size sa ra fa ca p.slots p.out.res p.out.chain p.chain/\K_ w w'
variable {w:QX}
theorem Em{P:Program}{id:Nat}{d:Array Oper}{Q:Exit->Act->QX->Prop}{a:Act}(J:Act->Act->QX->Prop)(h:(Code.region id d true).wp P (λx b u=>x=.normal/\J a b u) a w)(i:∀b u,J a b u->Q .normal b u):(Code.region id d true).wp P Q a w:=
 wp_mono h λe b u c=>by
  obtain⟨rfl,c⟩:=c;exact i b u c
def kz(n:Nat):QY:=.b (n:Int)
variable {n:Nat}{F:Nat -> QY}{t:TypeId}
theorem gQ{b:Nat}(h:w.rowIs b t n F):bu w b t:=by
 obtain⟨c,d,_⟩:=h;exact⟨c,_,d⟩
theorem gL{w':QX}{b:Nat}(h:w.rowIs b t n F)(k:w'.heap[b]? =w.heap[b]?):w'.rowIs b t n F:=by
 obtain⟨c,d,e⟩:=h;exact⟨c,k.trans d,e⟩
theorem fT{b:Nat}(h:w.rowIs b t n F):b<w.heap.size:=by
 obtain⟨d,c,_⟩:=h;exact aP c
theorem Jg{b:Nat}{G:Nat->QY}(h:w.rowIs b t n F)(e:∀p,p<n->G p=F p):w.rowIs b t n G:=by
 obtain⟨c,d,f,i⟩:=h;exact⟨c,d,f,λp a=>by rw[i p a,e p a]⟩
def uM(w:QX)(a:QW)(l:List Nat):Prop:=∀i,i<l.length->∃b o,a=some ⟨b,o,none⟩/\b<w.heap.size/\w.cell? ⟨b,o+i,none⟩=some (.b ((l.getD i 0:Nat):Int))
theorem uM.kept{w':QX}{a:QW}{l:List Nat}(h:uM w a l)(k:K_ w w'):uM w' a l:=λi c=>by
 obtain⟨d,o,e,b,f⟩:=h i c;exact⟨d,o,e,Px b k.size,(k.cell b).trans f⟩
theorem yY{base:Nat}{v:QY}{l:List Nat}(h:w.ownsRow base t 1 v n (l.map kz))(f:n=l.length):∃a cap,v=.slice a l.length cap/\n<=cap/\uM w a l:=by
 obtain⟨a,cap,rfl⟩:=aG h;refine⟨a,cap,by rw[f],?_,λi d=>?_⟩
 .rcases h.2 with⟨e,c⟩|⟨_,_,_,e,_,_,c,_⟩
  .simp only[Qm] at e;omega
  .simp only[Qm] at e;omega
 .obtain⟨b,o,c,j,k⟩:=eP h i (by simpa using d);exact⟨b,o,c,j,by have:=k i (kz (l.getD i 0)) (by simp[List.getD,d]);exact this⟩
structure pR (w:QX)(base n:Nat)(blk:Bool->Nat)(g:Bool->Nat->QY)(L:Bool->Nat->List Nat):Prop where
 row:∀c,w.rowIs (blk c) 44 n (g c)
 ne:blk true≠blk false
 own:∀c p,w.ownsRow base 3 1 (g c p) (L c p).length ((L c p).map kz)
 sep:∀c p c' p',¬(c'=c/\p'=p)->∀x,(g c p).ownBlock=some x->(g c' p').ownBlock≠some x
section
variable {w w1 w':QX}{base n:Nat}{blk:Bool -> Nat}{g:Bool -> Nat -> QY}{L:Bool -> Nat -> List Nat}
theorem pR.but{S:Nat->Prop}(h:pR w base n blk g L)(k:But S w w')(d:∀c,¬S (blk c))(h2:∀c p b,(g c p).ownBlock=some b->¬S b):pR w' base n blk g L:=
 ⟨λc=>gL (h.row c) (k.block _ (fT (h.row c)) (d c)),h.ne,λc p=>k.owns (h.own c p) (h2 c p),h.sep⟩
theorem pR.kept(h:pR w base n blk g L)(k:K_ w w'):pR w' base n blk g L:=h.but (S:=λ_=>False) (But.ak k) (λ_=>id) λ_ _ _ _=>id
theorem pR.put(h:pR w base n blk g L)(b:Bool)(p:Nat){d:QY}{x:Nat}(v:w1.ownsRow base 3 1 d ((L b p).length+1) ((L b p).map kz++[kz x]))(D:w.grownBy w1 (g b p).ownBlock)(E:∀y,d.ownBlock=some y->(g b p).ownBlock=some y\/w.heap.size<=y):
  pR (w1.setCell ⟨blk b,p,none⟩ d) base n blk (λc q=>if c=b/\q=p then d else g c q) (λc q=>if c=b/\q=p then L b p++[x] else L c q)/\But (λy=>(g b p).ownBlock=some y\/y=blk b) w (w1.setCell ⟨blk b,p,none⟩ d):=by
 have s:But (λy=>(g b p).ownBlock=some y) w w1:=But.aI D λy e=>e;have f:∀c,w1.rowIs (blk c) 44 n (g c):=λc=>gL (h.row c) (s.block _ (fT (h.row c)) λe=>aN (gQ (h.row c)) (Y_ (h.own b p) e) A8 rfl)
 have k:But (λy=>y=blk b) w1 (w1.setCell ⟨blk b,p,none⟩ d):=But.set (S:=λy=>y=blk b) (But.ak (K_.refl w1)) (p:=⟨blk b,p,none⟩) rfl d;have z:∀c q,¬(c=b/\q=p)->w1.ownsRow base 3 1 (g c q) (L c q).length ((L c q).map kz):=λc q l=>s.owns (h.own c q) λy e a=>h.sep c q b p (λA=>l ⟨A.1.symm,A.2.symm⟩) y e a
 refine⟨⟨λc=>?_,h.ne,λc q=>?_,λc q m r l y i=>?_⟩,?_⟩
 .by_cases e:c=b
  .subst e;exact qX (f c) p d λq I=>A9
  .refine Jg (gL (f c) (k.block _ (fT (f c)) λa=>?_)) (λq _=>by simp[e]);have j:=h.ne;cases c<;>cases b<;>first|exact e rfl|exact j a|exact j a.symm
 .by_cases e:c=b/\q=p
  .simp only[QI e,Qi,QM,QQ,List.map_cons,List.map_nil];exact k.owns v λy t a=>aN (Y_ v t) (gQ (f b)) A8 a
  .simp only[QJ e];exact k.owns (z c q e) λy t a=>aN (Y_ (z c q e) t) (gQ (f b)) A8 a
 .have B:∀c q,¬(c=b/\q=p)->∀y,d.ownBlock=some y->(g c q).ownBlock≠some y:=λc q F y G C=>by
   rcases E y G with j|j
   .exact h.sep b p c q F y j C
   .have:=((h.own c q).lt y C).2;omega
  by_cases e:c=b/\q=p
  .simp only[QI e] at i;have a:¬(m=b/\r=p):=λa=>l ⟨a.1.trans e.1.symm,a.2.trans e.2.symm⟩
   simp only[QJ a];exact B m r a y i
  .simp only[QJ e] at i;by_cases a:m=b/\r=p
   .simp only[QI a];exact λH=>B c q e y H i
   .simp only[QJ a];exact h.sep c q m r l y i
 .exact (s.mono λy _ e=>Or.inl e).trans (k.mono λy _ e=>Or.inr e)
end
structure vD (w:QX)(na:QW)(nm:List QV)(nb mb:Nat)(need back:Nat->List Nat):Prop where
 names:Strs w na nm
 nbl:nb<w.heap.size
 mbl:mb<w.heap.size
 fwd:∀p,p<nm.length->∃a c,w.cell? ⟨nb,p,none⟩=some (.slice a (need p).length c)/\uM w a (need p)
 bwd:∀p,p<nm.length->∃a c,w.cell? ⟨mb,p,none⟩=some (.slice a (back p).length c)/\uM w a (back p)
theorem vD.kept{w':QX}{f:QW}{i:List QV}{j mb:Nat}{l back:Nat->List Nat}(h:vD w f i j mb l back)(k:K_ w w'):vD w' f i j mb l back:=
 ⟨h.names.kept k,Px h.nbl k.size,Px h.mbl k.size,λp b=>by
  obtain⟨a,c,d,e⟩:=h.fwd p b;exact⟨a,c,(k.cell h.nbl).trans d,e.kept k⟩,λp b=>by
  obtain⟨a,c,d,e⟩:=h.bwd p b;exact⟨a,c,(k.cell h.mbl).trans d,e.kept k⟩⟩
theorem pR.read{base:Nat}{blk:Bool->Nat}{g:Bool->Nat->QY}{L:Bool->Nat->List Nat}{e:QW}{b:List QV}(h:pR w base b.length blk g L)(i:Strs w e b):vD w e b (blk true) (blk false) (L true) (L false):=by
 have f:∀c p,p<b.length->∃a d,w.cell? ⟨blk c,p,none⟩=some (.slice a (L c p).length d)/\uM w a (L c p):=λc p j=>by
  obtain⟨a,d,k,_,l⟩:=yY (h.own c p) rfl;exact⟨a,d,by rw[(h.row c).cell j,k],l⟩
 exact⟨i,fT (h.row true),fT (h.row false),f true,f false⟩
theorem Fh{l:List Nat}{p q:Nat->Bool}(h:∀x,q x=true->p x=true){s:Nat}(b:s∈l)(c:p s=true)(h2:q s=false):l.countP q+1<=l.countP p:=by
 induction l with
 |nil=>cases b
 |cons a l ih=>
  rw[List.countP_cons,List.countP_cons];rcases Qr.1 b with rfl|b
  .have:=List.countP_mono_left (l:=l) (p:=q) (q:=p) λx _=>h x;simp only[c,h2,if_true];simp;omega
  .have f:=ih b;have d:=h a;cases e:q a
   .simp;omega
   .simp[d e];omega
def unseen(A:Nat->Nat):Nat:=(List.range 60).countP λp=>A p == 0
theorem xH{A:Nat->Nat}{s v:Nat}(c:s<60)(d:A s=0)(b:v≠0):unseen (λr=>if r=s then v else A r)+1<=unseen A:=by
 refine Fh (s:=s) (λx a=>?_) (List.mem_range.2 c) (by simp[d]) (by simp[b]);by_cases e:x=s
 .rw[e] at a;simp[b] at a
 .simpa[e] using a
theorem EZ{Q:List Nat}{s:Nat}(c:Q.Nodup)(d:∀p∈Q,p<60)(e:s<60)(f:s∉Q):Q.length<60:=by
 have h:(s :: Q).Nodup:=List.nodup_cons.2 ⟨f,c⟩;have:=List.Nodup.length_le_of_subset (l₂:=List.range 60) h (λx b=>by
  rcases Qr.1 b with rfl|b
  .exact List.mem_range.2 e
  .exact List.mem_range.2 (d x b))
 simp at this;omega
def jL(w:QX)(ab:Nat)(A:Nat->Nat):Prop:=w.rowIs ab 222 60 λi=>kz (A i)
theorem jL.put{w:QX}{a:Nat}{A:Nat->Nat}(h:jL w a A)(i v:Nat):jL (w.setCell ⟨a,i,none⟩ (.b (v:Int))) a (λr=>if r=i then v else A r):=
 qX h i _ (λp _=>by by_cases e:p=i<;>simp[e,kz])
theorem nQ.size{w:QX}{a:Nat}{Q:List Nat}(h:nQ w a Q):w.cell? ⟨a,61,none⟩=some (.b (Q.length:Int)):=by
 obtain⟨V,f,_,_,d,_⟩:=h.ex;rw[d.cell A7]
 rfl
def ql(A:Nat->Nat):Array QY:=((List.range 60).map λi=>kz (A i)).toArray
structure Lt (R:Nat->Nat->Prop)(t:Nat)(A:Nat->Nat)(size:Nat):Prop where
 no:size=0->∀n,¬mi R t n
 yes:size≠0->mi R t size/\∀r n,n+1<=size->(A r=n+1↔Far R t n r)
def Ng(R:Nat->Nat->Prop)(t:Nat)(w w':QX)(e:Ending):Prop:=∃(A:Nat->Nat)(size:Nat),e=.returned (.tuple #[.agg (ql A),.b (size:Int)])/\Lt R t A size/\size<=60/\K_ w w'
theorem AA{w:QX}{c:Nat}{A:Nat->Nat}(h:jL w c A):w.rangeAt c 0 ((List.range 60).map λi=>kz (A i)):=λj v a=>by
 rw[List.getElem?_map] at a;by_cases b:j<60
 .rw[List.getElem?_range b] at a;simp only[Option.map_some,Ql] at a;rw[Qb,<-a];exact h.cell b
 .rw[List.getElem?_eq_none (by simpa using b)] at a;cases a
theorem Tryz.sI :(prog.info? 222).map (·.size)=some 60:=C9
theorem tJ{P:Program}{fn:Func}{R:Ending->QX->Prop}{a:Act}{w:QX}{p q:Tmp}{c:TypeId}{b:Nat}(cs:List QY)(d:TypeDesc)(v:QY)(h:fn.results= #[.cell p c,.tmp q])(e:a.tmps.getD p undef=.h b)(f:w.rangeAt b 0 cs)(i:P.underlying c=some d)(j:d.isRow=true)(hi:(P.info? c).map (·.size)=some cs.length)(k:a.tmps.getD q undef=v)(l:a.defers=[])(m:R (.returned (.tuple #[.agg cs.toArray,v])) w):bodyPost P fn R .ret a w:=by
 refine bodyPost_ret ?_ l m;have n:a.tmps[p]?.getD undef=.h b:=by simpa using e
 have r:a.tmps[q]?.getD undef=v:=by simpa using k
 simp only[results,h];simp[n,r,asAddr,run_loadVar_mid w b 0 c cs d f i j hi]
theorem iB(A:Nat->Nat):(ql A).size=60:=by simp[ql]
theorem uD(A:Nat->Nat):(ql A).all (·.oneCell')=true:=by simp[ql,kz,Value.oneCell']
theorem z60 :List.toArray (List.replicate 60 (Value.int .i64 0))=Array.replicate 60 (Value.int .i64 0):=rfl
theorem z62 :List.toArray (List.replicate 62 (Value.int .i64 0))=Array.replicate 62 (Value.int .i64 0):=rfl
theorem Al(w:QX)(R:QW)(nc:Nat)(a:List QV)(T mb:Nat)(c1 back:Nat->List Nat)(E:QV->QV->Prop)(c2:Nat)(t:Nat)(ht:t<a.length)(hn:a.length<=60)(hM:c2<=60000000)(hV:vD w R a T mb c1 back)(hR:Ew E a c2 c1 back):
  Calls prog 156 #[.agg #[.slice R a.length nc,.c T a.length a.length,.c mb a.length a.length],.b (t:Int)] w λe w'=>Ng (dP E a) t w w' e:=by
 go_enter func156,ntmps156
 go_upto_region 1 with fail
 rw (transparency:=.default) [z60]
 go_step3
 go_upto_region 4 with fail
 rw (transparency:=.default) [z60,z62];obtain⟨f,J⟩:=aj (w.alloc (.cells #[.slice R a.length nc,.c T a.length a.length,.c mb a.length a.length] 178));have k1:K_ w f:=by rw[J];exact ai _ _
 have s2:f.cell? ⟨w.heap.size,2,none⟩=some (.c mb a.length a.length):=by rw[J];exact X_ w #[.slice R a.length nc,.c T a.length a.length,.c mb a.length a.length] 178 2 _ rfl
 have z1:w.heap.size<f.heap.size:=by rw[J];simp
 have c3:w.heap.size+1=f.heap.size:=by rw[J];simp
 obtain⟨d,L⟩:=aj (f.alloc (.cells (Array.replicate 60 (.b 0)) 222));have k2:K_ f d:=by rw[L];exact ai _ _
 have a3:Hid (aH d f.heap.size 222 60):=by have h:=aH.made f (Array.replicate 60 (.b 0)) 222;rw[Array.size_replicate] at h;rw[L];exact h
 have e9:f.heap.size+1=d.heap.size:=by rw[L];simp
 obtain⟨z,M⟩:=aj (d.alloc (.cells (Array.replicate 60 (.b 0)) 222));have k3:K_ d z:=by rw[M];exact ai _ _
 have a4:jL z d.heap.size (λ_=>0):=by
  have h:=World.rowIs_alloc d (Array.replicate 60 (.b 0)) 222 (λ_=>kz 0) (λi B=>by simp at B;simp[kz,B]);rw[Array.size_replicate] at h;rw[M];exact h
 have f0:d.heap.size+1=z.heap.size:=by rw[M];simp
 obtain⟨C,U⟩:=aj (z.alloc (.cells (Array.replicate 62 (.b 0)) 243));have k4:K_ z C:=by rw[U];exact ai _ _
 have r4:nQ C z.heap.size []:=by
  refine⟨λ_=>0,0,A7,A9,?_,λi B=>aS B⟩;have h:=World.rowIs_alloc z (Array.replicate 62 (.b 0)) 243 (pq (λ_=>0) 0 0) (λi B=>by simp at B;simp[pq,B]);rw[Array.size_replicate] at h;rw[U];exact h
 rw[<-J,<-L,<-M,<-U];obtain⟨c,c4⟩:=aj d.heap.size;obtain⟨j,c5⟩:=aj z.heap.size;have V:w.heap.size+1=f.heap.size:=c3;have c6:w.heap.size+1+1=c:=A7;have c7:w.heap.size+1+1+1=j:=A7;rw[c7,c6,V];rw[<-c4] at a4;rw[<-c5] at r4;have N:c≠j:=A7;have W:=Kz (nI a4 k4);have f1:=W.out.frozen t;have f2:=W.out.cell (show t<60 by omega);have h9:(t:Int)<60:=A7;have K4:=k3.trans k4;have c8:=Kz r4;have X:=Kz (jL.put W.out t 1);have a5:Hid (But (λb=>b=c\/b=j) C (C.setCell ⟨c,t,none⟩ (.b (1:Int)))):=But.set (S:=λb=>b=c\/b=j) (But.ak (K_.refl C)) (p:=⟨c,t,none⟩) (.inl rfl) _;have Y:=Kz (k1.trans k2);have f3:=Kz k2;have a6:=Kz (c8.o.block (w':=C.setCell ⟨c,t,none⟩ (.b (1:Int))) (Below.heap_setCell _ _ _ _ λe=>N (Eq.symm e)));have c9:Hid (d.heap.size<=c):=by show d.heap.size<=c;omega
 have Z:Hid (d.heap.size<=j):=by show d.heap.size<=j;omega
 have HZ:Hid (w.heap.size<d.heap.size/\f.heap.size<d.heap.size/\w.heap.size<f.heap.size):=⟨A7,A7,A7⟩;have f4:=Kz ((f3.o.cell z1).trans s2);obtain⟨b4,a7⟩:=aj f.heap.size;rw[<-a7] at a3 HZ⊢;have i0:=Kz a7;clear J L M U V c6 c7 a4 r4 k3 k4 k1 k2 f0 e9 c3 c4 c5 z1 s2 a7;go_upto_region 5 with fail
 have a8:Hid (K_ d (C.setCell ⟨c,t,none⟩ (.b (1:Int)))):=a5.o.kept K4 (λb e=>by rcases e with e|e<;>rw[e]<;>first|exact c9.o|exact Z.o);generalize f5:C.setCell ⟨c,t,none⟩ (.b (1:Int))=W5 at X a5 a6 a8⊢;clear f5 f1 f2 a5 c8 W K4;go_wp2_with fail
 refine (Ia W5 j [] t a6.o A9).mono ?_;rintro e w6 ⟨rfl,d0,a9⟩;have d1:Hid (nQ w6 j [t]):=d0;have d2:Hid (jL w6 c λr=>if r=t then 1 else (λ_=>0) r):=gL X.o (a9.block _ (fT X.o) λe=>N e);have d3:Hid (K_ d w6):=a9.kept a8.o (λb e=>by rw[e];exact Z.o);have d4:Hid (Bfs (dP E a) t (λr=>if r=t then 1 else (λ_=>0) r) [t]):=Bfs.start _ t;have d5:Hid (∀r,(λr=>if r=t then 1 else (λ_=>0) r) r+unseen (λr=>if r=t then 1 else (λ_=>0) r)<=60):=λr=>by
  have h1:=xH (A:=λ_=>0) (v:=1) (show t<60 by omega) rfl A7;have h2:unseen (λ_=>0)<=60:=by unfold unseen;have:=List.countP_le_length (l:=List.range 60) (p:=λ_=>(0:Nat) == 0);simp
  by_cases e:r=t
  .simp only[e,if_true];omega
  .simp only[QJ e];omega
 clear d0 a9 X a6 a8;go_wp2_with fail
 go_step3
 go_wp2
 go_loopg [8] (2*unseen (λr=>if r=t then 1 else (λ_=>0) r)+1) λgg x8 wr=>∃(A:Nat->Nat)(Q:List Nat),x8=.b 0/\Hid (2*unseen A+Q.length=gg)/\Hid (∀r,A r+unseen A<=60)/\Hid (jL wr c A)/\Hid (nQ wr j Q)/\Hid (Bfs (dP E a) t A Q)/\Hid (∀p∈Q,p<a.length)/\Hid (K_ d wr)
 case atStart=>exact⟨_,[t],rfl,Kz rfl,d5,d2,d1,d4,Kz (λp hp=>by rw[PI] at hp;rw[hp];exact ht),d3⟩
 case round=>
  clear d2 d1 d4 d3 d5;obtain⟨A,Q,rfl,K,y,k,H,HB,D,n⟩:=hrel;have b0:=H.o.size;cases Q with
  |nil=>
   have i1:wr.cell? ⟨j,61,none⟩=some (.b 0):=b0;clear b0;have HD:Hid (Lt (dP E a) t A 0):=⟨λ_ f6 F=>HB.o.none f6 F.1 F.2.1,λh=>QK rfl h⟩;go_upto_region 17 with fail
   have b1:=a3.o.kept n.o;have O:=Kz (b1.row.there (o:=0) (m:=60) (Pw _));have b2:=Kz (AA k.o);go_wp2_with (first|(refine wpList_load_mid rfl 222 (.tmp 6) rfl c 0 rfl _ _ b2.o underlying222 rfl Tryz.sI ?_)|(refine wpList_store_mid rfl 222 (.tmp 4) (.tmp 49) rfl b4 0 (ql A) rfl rfl (by rw[iB];exact O.o) (by rw[iB];exact Tryz.sI) (uD A) ?_))
   try rw[Exit.noGoto_ret]
   refine tJ ((List.range 60).map λi=>kz (A i)) _ (.b ((0:Nat):Int)) results156 rfl (PD wr b4 0 ((List.range 60).map λi=>kz (A i)) (by rw[QD,List.length_range];exact O.o)) underlying222 rfl (by rw[QD,List.length_range];exact Tryz.sI) rfl rfl ⟨A,0,rfl,HD.o,A7,?_⟩;exact K_.setCells (Nat.le_of_lt HZ.o.2.2) _ _ (Y.o.trans n.o)
  |cons p Q=>
   have f7:(0:Int)<((p :: Q).length:Int):=A9;have f8:p<a.length:=D.o p A9;obtain⟨ba,bc,d6,d7⟩:=hV.bwd p f8;go_wp2_with fail
   refine (Mh wr j Q p H.o).mono ?_;rintro e w1 ⟨rfl,d8,b3⟩;have d9:=Kz d8;have e0:Hid (jL w1 c A):=gL k.o (b3.block _ (fT k.o) λe=>N e);have a0:Hid (K_ d w1):=b3.kept n.o (λb e=>by rw[e];exact Z.o);have x:=Kz HB.o.take;have e1:Hid (∀q∈Q,q<a.length):=λq P=>D.o q (PS _ P)
   have e2:Hid (2*unseen A+Q.length<gk):=by have h:=K.o;rw[Qn] at h;show 2*unseen A+Q.length<gk;omega
   have f9:=Kz d7;have q2:=(a0.o.cell HZ.o.1).trans f4.o;have q3:=((Y.o.trans a0.o).cell hV.mbl).trans d6;have i2:(p:Int)<(a.length:Int):=A7;have i3:=(hR.len p).2;clear d8 b3 d7 d6 b0 f7 k H HB D n K;go_wp2_with fail
   clear q2 q3;go_loopw [8,26] (λx8 b5 wr=>∃(i:Nat)(A:Nat->Nat)(Q:List Nat),x8=.b 0/\b5=.b (i:Int)/\i<=(back p).length/\Hid (2*unseen A+Q.length<gk)/\Hid (∀r,A r+unseen A<=60)/\Hid (jL wr c A)/\Hid (nQ wr j Q)/\Hid (pG (dP E a) t p ((back p).take i) A Q)/\Hid (∀q∈Q,q<a.length)/\Hid (K_ d wr)) λ_ b5 _=>(back p).length-(intOf b5).toNat
   case atStart=>exact⟨0,A,Q,rfl,rfl,Py _,e2,y,e0,d9,x,e1,a0⟩
   case round=>
    clear e2 y e0 d9 x e1 a0;obtain⟨i,A,Q,rfl,rfl,B,K,y,k,H,x,D,n⟩:=hrel;by_cases a1:i<(back p).length;rotate_left
    .have g0:Hid (Bfs (dP E a) t A Q):=x.o.ends (λs F=>by rw[Qd A7];exact (hR.bwd s p).2 F);go_wp2
     go_roundg (2*unseen A+Q.length)
     case measure=>exact K.o
     case rel=>exact⟨A,Q,rfl,Kz rfl,y,k,H,g0,D,n⟩
    obtain⟨sb,so,V,i4,g1⟩:=(f9.o.kept (Y.o.trans n.o)) i a1;subst V;obtain⟨s,F⟩:=aj ((back p).getD i 0);rw[<-F] at g1;have b6:(back p)[i]=s:=by rw[F];simp[List.getD,a1]
    have HE:Hid (dP E a s p):=(hR.bwd s p).1 (by rw[<-b6];exact PL a1);have g2:s<a.length:=HE.o.1;have e3:Hid ((back p).take (i+1)= (back p).take i++[s]):=by show _=_;rw[PH a1,b6]
    have i5:(i:Int)<((back p).length:Int):=A7;have cp:=k.o.cell (show p<60 by omega);have cs:=k.o.cell (show s<60 by omega);unfold kz at cp cs;have i6:(p:Int)<60:=A7;have i7:(s:Int)<60:=A7;clear F b6;by_cases G:s=t
    .have g3:((s:Int) == (t:Int))=true:=by simp[G]
     have b7:=Kz (x.o.found (by have h:=HE.o;rw[G] at h;exact h));have e4:=Kz x.o.pos;have HD:Hid (Lt (dP E a) t A (A p)):=⟨λh=>QK h e4.o,λ_=>⟨⟨by have:=e4.o;omega,b7.o.1,b7.o.2.1⟩,b7.o.2.2⟩⟩;have e5:A p<=60:=by have:=y.o p;omega
     clear G cs;go_upto_region 17 with fail
     have b1:=a3.o.kept n.o;have O:=Kz (b1.row.there (o:=0) (m:=60) (Pw _));have b2:=Kz (AA k.o);go_wp2_with (first|(refine wpList_load_mid rfl 222 (.tmp 6) rfl c 0 rfl _ _ b2.o underlying222 rfl Tryz.sI ?_)|(refine wpList_store_mid rfl 222 (.tmp 4) (.tmp 49) rfl b4 0 (ql A) rfl rfl (by rw[iB];exact O.o) (by rw[iB];exact Tryz.sI) (uD A) ?_))
     try rw[Exit.noGoto_ret]
     refine tJ ((List.range 60).map λi=>kz (A i)) _ (.b ((A p:Nat):Int)) results156 rfl (PD wr b4 0 ((List.range 60).map λi=>kz (A i)) (by rw[QD,List.length_range];exact O.o)) underlying222 rfl (by rw[QD,List.length_range];exact Tryz.sI) rfl rfl ⟨A,A p,rfl,HD.o,e5,?_⟩;exact K_.setCells (Nat.le_of_lt HZ.o.2.2) _ _ (Y.o.trans n.o)
    have g3:((s:Int) == (t:Int))=false:=D7;by_cases I:A s=0;rotate_left
    .have g4:((A s:Int) == 0)=false:=D7;have g5:=Kz (x.o.old I G);clear I G cp;go_wp2
     go_roundw
     case rel=>exact⟨i+1,A,Q,rfl,C8,A7,K,y,k,H,Kz (by rw[e3.o];exact g5.o),D,n⟩
     case measure=>simp[intOf];omega
    have g4:((A s:Int) == 0)=true:=by simp[I]
    have g6:=Kz (x.o.new HE.o I G);have g7:Q.length<60:=EZ x.o.nd (λq P=>Px (D.o q P) hn) A7 λh=>x.o.q s h I;have e6:=Kz (xH (v:=A p+1) (show s<60 by omega) I A7);have e5:A p<=60:=by have:=y.o p;omega
    have fs:=k.o.frozen s;have a2:=Kz (jL.put k.o s (A p+1));have e7:((A p:Int)+1)= ((A p+1:Nat):Int):=A7;have b8:Hid (K_ d (wr.setCell ⟨c,s,none⟩ (.b ((A p+1:Nat):Int)))):=(But.set (S:=λb=>b=c) (But.ak (K_.refl wr)) (p:=⟨c,s,none⟩) rfl _).kept n.o (λb e=>by rw[e];exact c9.o);have b9:=Kz (H.o.block (w':=wr.setCell ⟨c,s,none⟩ (.b ((A p+1:Nat):Int))) (Below.heap_setCell _ _ _ _ λe=>N (Eq.symm e)));have i8:Hid (s≠t):=G;have g8:=Kz e7;clear G I e7;go_upto_region 15 with fail
    rw[g8.o];generalize g9:wr.setCell ⟨c,s,none⟩ (.b ((A p+1:Nat):Int))=w7 at a2 b8 b9⊢;clear g9 fs cp cs;go_wp2_with fail
    refine (Ia w7 j Q s b9.o g7).mono ?_;rintro e w8 ⟨rfl,e8,c0⟩;have h0:=Kz e8;have h4:Hid (jL w8 c λr=>if r=s then A p+1 else A r):=gL a2.o (c0.block _ (fT a2.o) λe=>N e);have h5:Hid (K_ d w8):=c0.kept b8.o (λb e=>by rw[e];exact Z.o);have h6:Hid (2*unseen (λr=>if r=s then A p+1 else A r)+(Q++[s]).length<gk):=by
     have h1:=e6.o;have h2:=K.o;rw[Qi];simp only[Qn,List.length_nil];show _<_;omega
    have h7:Hid (∀r,(λr=>if r=s then A p+1 else A r) r+unseen (λr=>if r=s then A p+1 else A r)<=60):=λr=>by
     have h1:=e6.o;have h2:=y.o r;have h3:=y.o p;by_cases e:r=s
     .simp only[e,if_true];omega
     .simp only[QJ e];omega
    have h8:Hid (∀q∈Q++[s],q<a.length):=λq P=>by
     rcases PK.1 P with h|h
     .exact D.o q h
     .rw[PI] at h;rw[h];exact g2
    clear e8 c0 a2 b8 b9;go_wp2
    go_roundw
    case rel=>exact⟨i+1,_,_,rfl,C8,A7,h6,h7,h4,h0,Kz (by rw[e3.o];exact g6.o),h8,h5⟩
    case measure=>simp[intOf];omega
theorem um{P:Program}{h:Array Oper}{rest:List Oper}{e:Oper}{a:Act}{f:QX}{Q:Exit->Act->QX->Prop}(hgd:e.guard=none)(d:TypeId)(x y:Operand)(k:e.op=.store d x y)(c b:Array QY)(l:a.eval x=.h f.heap.size)(hy:a.eval y=.agg b)(hi:(P.info? d).map (·.size)=some b.size)(m:c.size=b.size)(n:b.all (·.oneCell')=true)(p:wpList P h Q rest (a.put e.dst undef) (f.alloc (.cells b d))):wpList P h Q (e :: rest) a (f.alloc (.cells c d)):=
 wpList_plain hgd λ_ q=>by
  unfold Oper.wp execOp;simp only[k,l,hy,Instr.storeAt,Instr.sureAddr,Sem.run_bind,Sem.run_pure,Result.andThen_ok,run_storeVar_new f d c b hi m n];exact q _ _ p
theorem Tryz.Mw :(prog.info? 3).map (λi=>(i.zero,i.size,i.bytes))=some (some (.b 0),1,8):=C9
theorem jL.new(w:QX)(A:Nat->Nat):jL (w.alloc (.cells (ql A) 222)) w.heap.size A:=by
 have h:=World.rowIs_alloc w (ql A) 222 (λi=>kz (A i)) (λi c=>by
  rw[iB] at c;simp[ql,c])
 rw[iB] at h;exact h
theorem KU(w:QX)(a b:Nat)(A:Nat->Nat)(left p:Nat)(c:p<60)(d:jL w a A)(h:w.cell? ⟨b,0,none⟩=some (.b (left:Int))):
  Calls prog 158 #[.b (p:Int),.h a,.h b] w λe w'=>e=.returned (.bool (((A p:Nat):Int) == (left:Int)))/\K_ w w':=by
 have f:=d.cell c;unfold kz at f;have i:(p:Int)<60:=A7;go_enter func158,ntmps158
 go_wp2
 go_region
 go_wp2
 go_ret
 exact⟨rfl,(a_ _)⟩
def Oz(A:Nat->Nat)(left:Nat)(l:List Nat)(e:Ending):Prop:=∃k,e=.returned (.b ((k:Nat):Int))/\∃hk:k<l.length,A l[k]=left/\∀j (hj:j<l.length),j<k->A l[j]≠left
theorem Ai(w:QX)(s:QW)(y:Nat)(l:List Nat)(m d:Nat)(A:Nat->Nat)(left:Nat)(M:l.length<=60000000)(z:∀p∈l,p<60)(B:d<w.heap.size)(C:uM w s l)(D:jL w m A)(E:w.cell? ⟨d,0,none⟩=some (.b (left:Int)))(F:∃p∈l,A p=left):
  Calls prog 157 #[.slice s l.length y,.func (.func 158) #[] #[.h m,.h d]] w λe w'=>Oz A left l e/\K_ w w':=by
 go_enter func157,ntmps157
 go_wp2
 go_loopw [8] (λx wr=>∃i:Nat,i<=l.length/\x=.b (i:Int)/\Hid (∀j (f:j<l.length),j<i->A l[j]≠left)/\K_ w wr) λx _=>l.length-(intOf x).toNat
 case atStart=>exact⟨0,Py _,rfl,Kz λj _ G=>aS G,K_.refl _⟩
 case round=>
  obtain⟨i,N,rfl,n,h⟩:=hrel;by_cases k:i<l.length;rotate_left
  .exfalso
   obtain⟨p,a,H⟩:=F;obtain⟨j,f,rfl⟩:=PN a;exact n.o j f A7 H
  obtain⟨b,o,I,O,J⟩:=(C.kept h) i k;subst I;obtain⟨p,a⟩:=aj (l.getD i 0);rw[<-a] at J;have q:l[i]=p:=by rw[a];simp[List.getD,k]
  have t:=Kz q;have K:p<60:=z p (by rw[<-q];exact PL k);have P:(i:Int)<(l.length:Int):=A7;clear a q;go_wp2_with fail
  refine (KU wr m d A left p K (nI D h) ((h.cell B).trans E)).mono ?_;rintro e w1 ⟨rfl,L⟩;have v:=h.trans L;by_cases r:A p=left
  .have c:(((A p:Nat):Int) == (left:Int))=true:=by simp[r]
   rw[c];clear c;go_wp2
   go_ret
   exact⟨⟨i,rfl,k,by rw[t.o];exact r,n.o⟩,v⟩
  .have c:(((A p:Nat):Int) == (left:Int))=false:=D7;rw[c];clear c;go_wp2
   go_roundw
   case rel=>
    refine⟨i+1,A7,C8,Kz λj f Q=>?_,v⟩;rcases Nat.lt_or_ge j i with e|e
    .exact n.o j f e
    .have:j=i:=A7;subst this;rw[t.o];exact r
   case measure=>simp[intOf];omega
def MU(R:Nat->Nat->Prop)(n t:Nat)(w w':QX)(e:Ending):Prop:=∃(av:QW)(cv:Nat)(l:List Nat),e=.returned (.slice av l.length cv)/\uM w' av l/\l.length<=60/\(∀p∈l,p<n)/\(l=[]->∀m,¬mi R t m)/\(l≠[]->∃m,mi R t m/\mr R t m t l/\l.length=m)/\K_ w w'
theorem yh(w:QX)(n:QW)(D:Nat)(a:List QV)(r mb:Nat)(m back:Nat->List Nat)(E:QV->QV->Prop)(a4:Nat)(t:Nat)(ht:t<a.length)(hn:a.length<=60)(hM:a4<=60000000)(X:vD w n a r mb m back)(s:Ew E a a4 m back):
  Calls prog 135 #[.agg #[.slice n a.length D,.c r a.length a.length,.c mb a.length a.length],.b (t:Int)] w λe w'=>MU (dP E a) a.length t w w' e:=by
 obtain⟨J,F⟩:=aj (w.alloc (.cells #[.slice n a.length D,.c r a.length a.length,.c mb a.length a.length] 178));have k1:K_ w J:=by rw[F];exact ai _ _
 have s0:J.cell? ⟨w.heap.size,0,none⟩=some (.slice n a.length D):=by rw[F];exact X_ w #[.slice n a.length D,.c r a.length a.length,.c mb a.length a.length] 178 0 _ rfl
 have s1:J.cell? ⟨w.heap.size,1,none⟩=some (.c r a.length a.length):=by rw[F];exact X_ w #[.slice n a.length D,.c r a.length a.length,.c mb a.length a.length] 178 1 _ rfl
 have s2:J.cell? ⟨w.heap.size,2,none⟩=some (.c mb a.length a.length):=by rw[F];exact X_ w #[.slice n a.length D,.c r a.length a.length,.c mb a.length a.length] 178 2 _ rfl
 have z1:w.heap.size<J.heap.size:=by rw[F];simp
 go_enter func135,ntmps135
 go_upto_region 1 with fail
 rw[<-F];clear F;go_wp2_with fail
 refine (Al J n D a r mb m back E a4 t ht hn hM (X.kept k1) s).mono ?_;rintro e K ⟨G,size,rfl,hD,i7,Y⟩;have⟨HD,c1⟩:=aJ hD s1;clear s0 s1 s2 hD;obtain⟨P,L⟩:=aj (ql G);have HI:Hid ((prog.info? 222).map (·.size)=some P.size):=by rw[L,iB];exact Tryz.sI
 have f2:Hid ((Array.replicate 60 (Value.int .i64 0)).size=P.size):=by show _=_;rw[L,iB];simp
 have f3:Hid (P.all (·.oneCell')=true):=by rw[L];exact uD G
 obtain⟨c,Q⟩:=aj (K.alloc (.cells P 222));have Z:K_ K c:=by rw[Q];exact ai _ _
 have c2:Hid (jL c K.heap.size G):=by rw[Q,L];exact jL.new K G
 rw[<-L];have M:=(k1.trans Y).trans Z;have c3:w.heap.size<c.heap.size:=Px z1 (Y.trans Z).size;have c4:=Kz (((Y.trans Z).cell z1).trans c1.o);obtain⟨ab,c5⟩:=aj K.heap.size;have f4:K.heap.size<c.heap.size:=by rw[Q];simp
 have⟨f5,f6⟩:=aJ Q c5;clear L Q c5 c1 Z Y k1 z1;go_upto_region 2 with (rw (transparency:=.default) [z60];refine um rfl 222 (.tmp 5) (.tmp 15) rfl _ P rfl rfl HI.o f2.o f3.o ?_)
 rw[<-f5.o];rw[<-f6.o] at c2 f4⊢;by_cases R:size=0
 .have f7:((size:Int) == 0)=true:=by simp[R]
  have f8:=Kz (HD.o.no R);clear R;go_wp2
  go_ret
  exact⟨none,0,[],rfl,λi hi=>aS hi,Py _,λp v=>(by cases v),λ_=>f8.o,λh=>QK rfl h,M⟩
 have f7:((size:Int) == 0)=false:=D7;obtain⟨a5,c6⟩:=HD.o.yes R;have⟨c7,c8⟩:=aJ a5 c6;have i8:1<=size:=a5.1;clear a5 c6 R;obtain⟨d,S⟩:=aj (c.alloc (.cells #[.b (t:Int)] 3));have kB:K_ c d:=by rw[S];exact ai _ _
 have a0:Hid (c.heap.size+1=d.heap.size):=by show _=_;rw[S];simp
 have a6:d.ownsRow c.heap.size 3 1 (.c c.heap.size 1 1) [t].length ([t].map kz):=by
  rw[S];exact⟨rfl,.inr ⟨c.heap.size,1,_,rfl,Pw _,heap_alloc_new c _,Pw _,D6,rfl,rfl⟩⟩
 obtain⟨WC,T⟩:=aj (d.alloc (.cells #[.b (size:Int)] 3));have kC:K_ d WC:=by rw[T];exact ai _ _
 have a7:Hid (aH WC d.heap.size 3 1):=by rw[T];exact aH.made d #[.b (size:Int)] 3
 have a8:Hid (WC.cell? ⟨d.heap.size,0,none⟩=some (.b (size:Int))):=by rw[T];exact X_ d #[.b (size:Int)] 3 0 _ rfl
 have b0:=Kz (ay a6 kC);have d0:=Kz (kB.trans kC);have⟨d1,d2,f9⟩:=dC S T a6;clear S T a6 kB kC;go_upto_region 6 with fail
 rw[<-d1.o,<-d2.o,a0.o];have N:Hid (c.heap.size<=d.heap.size/\∀f,(Value.slice (some ⟨c.heap.size,0,none⟩) [t].length 1).ownBlock=some f->f≠d.heap.size):=⟨by have:=a0.o;omega,λf e=>by simp only[Value.ownBlock,Ql] at e;have:=a0.o;omega⟩;obtain⟨oa,b1⟩:=aj c.heap.size;obtain⟨k,d3⟩:=aj d.heap.size;rw[<-b1] at b0 N⊢;rw[<-d3] at N a7 a8⊢;have b2:=Kz b1;clear b1 d3 f9 a0 d1 d2;go_wp2
 go_loopg [7,8,9] size λgg x7 x8 x9 wr=>∃(l:List Nat)(b k:Nat)(z:QW)(H:Nat),x7=.slice z l.length H/\x8=.b (b:Int)/\x9=.h k/\Hid (rM (dP E a) t size l b gg)/\Hid (∀p∈l,p<a.length)/\Hid (wr.ownsRow oa 3 1 (.slice z l.length H) l.length (l.map kz))/\Hid (aH wr k 3 1)/\Hid (wr.cell? ⟨k,0,none⟩=some (.b (gg:Int)))/\Hid (oa<=k/\∀f,(Value.slice z l.length H).ownBlock=some f->f≠k)/\Hid (K_ c wr)
 case atStart=>exact⟨[t],t,k,_,1,rfl,rfl,rfl,Kz (rM.start c7.o),Kz (λp v=>by rw[PI] at v;rw[v];exact ht),b0,a7,a8,N,d0⟩
 case round=>
  clear b0 a7 a8 N d0;obtain⟨l,b,k,z,H,rfl,rfl,rfl,A,b3,HO,a1,a2,N,I⟩:=hrel;have cl:=a2.o;have g0:=A.o.pos;have g1:=A.o.len;by_cases b4:gk=1
  .have i9:¬((1:Int)<(gk:Int)):=A7;have g2:Hid (mr (dP E a) t size t l):=by have h:=A.o;rw[b4] at h;exact h.done
   have d4:Hid (l.length=size):=by show l.length=size;omega
   have g3:Hid (l≠[]):=by obtain⟨l0,e⟩:=A.o.last;show l≠[];rw[e];simp
   have g4:Hid (uM wr z l):=by
    obtain⟨a9,c9,e9,_,h9⟩:=yY HO.o rfl;simp only[Qm,true_and] at e9;rw[<-e9.1] at h9;exact h9
   clear b4 g1 g0;go_wp2
   go_ret
   exact⟨z,H,l,rfl,g4.o,by have:=d4.o;omega,b3.o,λe=>QK e g3.o,λ_=>⟨size,c7.o,g2.o,d4.o⟩,M.trans I.o⟩
  have j0:1<=l.length:=by obtain⟨l0,e⟩:=A.o.last;rw[e];simp
  have j1:(1:Int)<(gk:Int):=A7;obtain⟨q,hq⟩:∃q,gk=q+1:=⟨gk-1,A7⟩;have g5:1<=q:=A7;have HQ:=Kz hq;have g6:b<a.length:=b3.o b (by obtain⟨l0,e⟩:=A.o.last;rw[e];simp);obtain⟨da,dc,b5,d5⟩:=X.fwd b g6;have g7:Hid (∃p∈m b,G p=gk):=by
   obtain⟨y,h1,h2⟩:=A.o.more A7;exact⟨y,(s.fwd b y).2 h1,by have:=(c8.o y (gk-1) A7).2 h2;omega⟩
  have g8:(m b).length<=60000000:=Pz (s.len b).1 hM;have g9:Hid (∀p∈m b,p<60):=λp v=>by have:=((s.fwd b p).1 v).2.1;omega
  have q1:=(I.o.cell c3).trans c4.o;have q2:=((M.trans I.o).cell X.nbl).trans b5;have j2:(b:Int)<(a.length:Int):=A7;have⟨d6,h0⟩:=aJ d5 b5;clear hq b4 d5 b5;go_wp2_with fail
  refine (Ai wr da dc (m b) ab k G gk g8 g9.o a1.o.lt (d6.o.kept (M.trans I.o)) (nI c2.o I.o) a2.o g7.o).mono ?_;rintro e B ⟨⟨a3,rfl,O,d7,d8⟩,U⟩;have V:=Kz (I.o.trans U);obtain⟨x,hx⟩:=aj ((m b)[a3]);have h3:Hid (Cn (λy=>dP E a b y/\Far (dP E a) t q y) x):=by
   have h4:=HQ.o;rw[hx];have d9:∀y,G y=gk↔Far (dP E a) t q y:=λy=>by rw[h4];exact c8.o y q A7
   exact Cv (p:=λy=>dP E a b y/\Far (dP E a) t q y) (s.asc b) (λy hy=>(s.fwd b y).2 hy.1) O ⟨(s.fwd b _).1 (PL O),(d9 _).1 d7⟩ λj hj h5 h=>d8 j hj h5 ((d9 _).2 h.2)
  have h6:x<a.length:=by have:=((s.fwd b x).1 (by rw[hx];exact PL O)).2.1;exact this
  obtain⟨eb,eo,e1,j3,h7⟩:=(d6.o.kept (M.trans V.o)) a3 O;subst e1;have e0:(m b).getD a3 0=x:=by rw[hx];simp[List.getD,O]
  rw[e0] at h7;have j4:(a3:Int)<((m b).length:Int):=A7;have q1:=(V.o.cell c3).trans c4.o;have q2:=((M.trans V.o).cell X.nbl).trans h0.o;clear hx e0 d7 d8 O cl;have e2:=(U.cell a1.o.lt).trans a2.o;have e3:=Kz (ay HO.o U);have b6:=Kz (a1.o.kept U);obtain⟨ic,h8,i0,i1,i2⟩:=info_parts Tryz.Mw;have W:K_ B (B.alloc (.cells #[.b (x:Int)] 3)):=ai _ _;have b7:=Kz (ay e3.o W);have b8:=Kz (V.o.trans W);have e4:oa<=(B.alloc (.cells #[.b (x:Int)] 3)).heap.size:=by rw[b2.o];exact b8.o.size
  have e5:Hid (∀j u,([.b (x:Int)]:List QY)[j]? =some u->(B.alloc (.cells #[.b (x:Int)] 3)).cell? ((⟨B.heap.size,0,none⟩:Addr).add j)=some u):=λj u hu=>by rw[Qo];exact X_ B #[.b (x:Int)] 3 j u hu
  have e6:Hid (∀u∈([.b (x:Int)]:List QY),u.oneCell'=true):=λu hu=>by simp only[Qr,Qs,or_false] at hu;subst hu;rfl
  have e7:=Kz (b6.o.kept W);have e8:=Kz ((W.cell b6.o.lt).trans e2);have j5:l.length<=60:=A7;clear e2 U;go_upto_region 11 with (at_builtin;refine wpList_append_own _ rfl (.tmp 42) (.tmp 44) 44 rfl oa 3 ic _ 1 8 underlying44 h8 i0 i1 i2 rfl A8 (.slice z l.length H) l.length (l.map kz) rfl b7.o ⟨B.heap.size,0,none⟩ 1 1 [.b (x:Int)] rfl rfl e5.o e6.o D6 A7 e4 ?_;intro v' C b9 c0 _)
  have KP:Hid (K_ c C):=aL b8.o (by rw[b2.o];exact Pw _) b7.o c0;have kg:But (λf=>(Value.slice z l.length H).ownBlock=some f) (B.alloc (.cells #[.b (x:Int)] 3)) C:=But.aI c0 λf e=>e;have f0:=e7.o.lt;have j6:C.cell? ⟨k,0,none⟩=some (.b (gk:Int)):=(kg.cell f0 λe=>N.o.2 k e rfl).trans e8.o;have f1:=Kz b9;obtain⟨i3,i4,rfl⟩:=aG b9;clear b9 c0 kg f0 e7 e8 e5 e6 b7 b8 e4 W b6 e3 HO a1 a2 I V;have i5:Hid (rM (dP E a) t size l b (q+1)):=by have h:=A.o;rw[HQ.o] at h;exact h
  have i6:Hid ((gk:Int)-1= (q:Int)):=by show _=_;have:=HQ.o;omega
  go_wp2_with fail
  rw[i6.o];have k8:K_ C (C.alloc (.cells #[.b (q:Int)] 3)):=ai _ _;go_roundg q
  case measure=>have:=HQ.o;omega
  case rel=>
   refine⟨l++[x],x,C.heap.size,i3,i4,by rw[Qi];rfl,rfl,rfl,Kz (i5.o.next g5 h3.o),Kz λp v=>?_,Kz ?_,Kz (aH.made C #[.b (q:Int)] 3),Kz (X_ C #[.b (q:Int)] 3 0 _ rfl),Kz ⟨?_,λf e=>?_⟩,Kz (KP.out.trans k8)⟩
   .rcases PK.1 v with h|h
    .exact b3.o p h
    .rw[PI] at h;rw[h];exact h6
   .rw[Qi,QM];exact ay f1.o k8
   .rw[b2.o];exact KP.out.size
   .rw[Qi] at e;have:=(f1.o.lt f e).2;omega
def Jw(R:Nat->Nat->Prop)(n:Nat)(w w':QX)(e:Ending):Prop:=∃(av:QW)(cv:Nat)(best:List Nat),e=.returned (.slice av best.length cv)/\uM w' av best/\best.length<=60/\(∀p∈best,p<n)/\ko R n best/\K_ w w'
theorem F_(w:QX)(d:QW)(j:Nat)(a:List QV)(f mb:Nat)(z back:Nat->List Nat)(E:QV->QV->Prop)(M:Nat)(hn:a.length<=60)(hM:M<=60000000)(hV:vD w d a f mb z back)(hR:Ew E a M z back):
  Calls prog 105 #[.agg #[.slice d a.length j,.c f a.length a.length,.c mb a.length a.length]] w λe w'=>Jw (dP E a) a.length w w' e:=by
 obtain⟨q,k⟩:=aj (w.alloc (.cells #[.slice d a.length j,.c f a.length a.length,.c mb a.length a.length] 178));have R:K_ w q:=by rw[k];exact ai _ _
 have S:Hid (∀u,K_ q u->u.cell? ⟨w.heap.size,0,none⟩=some (.slice d a.length j)/\u.cell? ⟨w.heap.size,1,none⟩=some (.c f a.length a.length)/\u.cell? ⟨w.heap.size,2,none⟩=some (.c mb a.length a.length)):=λu A=>by
  have B:w.heap.size<q.heap.size:=by rw[k];simp
  have r:=X_ w #[.slice d a.length j,.c f a.length a.length,.c mb a.length a.length] 178;rw[<-k] at r;exact⟨(A.cell B).trans (r 0 _ rfl),(A.cell B).trans (r 1 _ rfl),(A.cell B).trans (r 2 _ rfl)⟩
 go_enter func105,ntmps105
 go_upto_region 1 with fail
 rw[<-k];clear k;obtain⟨C,D,F⟩:=S.o _ (K_.refl _);go_wp2_with fail
 clear C D F;go_loopw [3,9] (λx3 G wr=>∃(i:Nat)(b:List Nat)(h:QW)(m:Nat),i<=a.length/\G=.b (i:Int)/\x3=.slice h b.length m/\b.length<=60/\Hid (uM wr h b)/\Hid (∀T∈b,T<a.length)/\Hid (ko (dP E a) i b)/\K_ q wr) λ_ G _=>a.length-(intOf G).toNat
 case atStart=>exact⟨0,[],none,0,Py _,rfl,rfl,Py _,Kz λi U=>aS U,Kz (λT hp=>by cases hp),Kz (ko.start _),K_.refl _⟩
 case round=>
  obtain⟨i,b,h,m,U,rfl,rfl,H,I,J,n,s⟩:=hrel;by_cases a5:i<a.length;rotate_left
  .have a6:i=a.length:=A7;subst a6;go_wp2
   go_ret
   exact⟨h,m,b,rfl,I.o,H,J.o,n.o,R.trans s⟩
  obtain⟨C,D,F⟩:=S.o _ s;have b1:(i:Int)<(a.length:Int):=A7;go_wp2_with fail
  refine (yh wr d j a f mb z back E M i a5 hn hM (hV.kept (R.trans s)) hR).mono ?_;rintro e w2 ⟨V,W,l,rfl,X,Y,Z,a0,a1,K⟩;have⟨a2,a3⟩:=aJ X Z;have a4:=Kz (I.o.kept K);have t:=s.trans K;have⟨a7,a8⟩:=aJ a0 a1;clear C D F X Z a0 a1 I K;by_cases v:l.length=0
  .have hg:¬((0:Int)<(l.length:Int)):=A7;have L:Hid (ko (dP E a) (i+1) b):=n.o.skip λx N=>QK N (a7.o (PQ.1 v) x);clear v;go_wp2
   go_roundw
   case rel=>exact⟨i+1,b,h,m,A7,C8,rfl,H,a4,J,L,t⟩
   case measure=>simp[intOf];omega
  have hg:(0:Int)<(l.length:Int):=A7;have O:=Kz (a8.o λe=>v (by rw[e];rfl));clear v;by_cases c:b.length=0
  .have a9:((b.length:Int) == 0)=true:=by simp[c]
   have P:Hid (ko (dP E a) (i+1) l):=by
    obtain⟨x,p,Q,y⟩:=O.o;exact n.o.take p Q y (.inl (PQ.1 c))
   clear c;go_wp2
   go_roundw
   case rel=>exact⟨i+1,l,V,W,A7,C8,rfl,Y,a2,a3,P,t⟩
   case measure=>simp[intOf];omega
  have a9:((b.length:Int) == 0)=false:=by simp;exact λe=>c (by rw[e];rfl)
  by_cases b2:l.length<b.length
  .have b0:(l.length:Int)<(b.length:Int):=A7;have P:Hid (ko (dP E a) (i+1) l):=by
    obtain⟨x,p,Q,y⟩:=O.o;exact n.o.take p Q y (.inr A7)
   clear c;go_wp2
   go_roundw
   case rel=>exact⟨i+1,l,V,W,A7,C8,rfl,Y,a2,a3,P,t⟩
   case measure=>simp[intOf];omega
  .have b0:¬((l.length:Int)<(b.length:Int)):=A7;have L:Hid (ko (dP E a) (i+1) b):=n.o.skip (λx N=>by
    obtain⟨m',p,_,y⟩:=O.o;have:=p.unique N;exact⟨λe=>c (by rw[e];rfl),A7⟩)
   clear c;go_wp2
   go_roundw
   case rel=>exact⟨i+1,b,h,m,A7,C8,rfl,H,a4,J,L,t⟩
   case measure=>simp[intOf];omega
