import Derived.Test.YtppbfddlkfglgaaGreatDoorKBTask
set_option maxRecDepth 100000
set_option maxHeartbeats 25600000
namespace Go.Proofs.YtppbfddlkfglgaaGreatDoor
open Go.RowKit Go.Proofs.Tryz
variable {Kq:List Qz}
theorem kQ(h:bC Kq 0):Kq.length<=60:=by
 rcases h with⟨_,h⟩|⟨_,_,h⟩|⟨_,_,_,h⟩|⟨_,_,_,_,h⟩|⟨h,_⟩
 .cases h
 .cases h
 .cases h
 .cases h
 .omega
theorem D_(h:bC Kq 0){k:Nat}(c:k<Kq.length):jR (Kq.getD k Qz.zero).name/\iF ⟨(Kq.getD k Qz.zero).cost,(Kq.getD k Qz.zero).steps⟩:=by
 rcases h with⟨_,h⟩|⟨_,_,h⟩|⟨_,_,_,h⟩|⟨_,_,_,_,h⟩|⟨_,d,_,e,_⟩
 .cases h
 .cases h
 .cases h
 .cases h
 .refine⟨Classical.byContradiction λb=>d ⟨k,c,b⟩,Classical.byContradiction λb=>e ⟨k,c,b⟩⟩
theorem iC(h:bC Kq 0):aX (Kk Kq):=λn A c=>by
 obtain⟨k,d,e,_,rfl⟩:=iq c;obtain⟨a,f⟩:=D_ h d;rw[e] at a;exact⟨f,a⟩
theorem IG(h:bC Kq 0):uW Kq:=λy d s e=>by
 obtain⟨k,a,rfl⟩:=PN d;have b:=(D_ h a).2;simp only[List.getD,PE a,QL] at b;obtain⟨i,f,rfl⟩:=PN e;have c:=jU (i:=(i:Int)) b A7 (by show (i:Int)<((Kq[k].steps.length:Nat):Int);omega);have j:stepOf ⟨Kq[k].cost,Kq[k].steps⟩ (i:Int)=Kq[k].steps[i]:=by simp[stepOf,List.getD,f]
 rw[j] at c;exact⟨A7,λx l=>by have:=(c.2 x l).2.1;omega⟩
theorem Xj.sets{b c:Nat}{a:QX}{g:Nat}(d:b<=g)(h2:g<c):∀(vs:List QY)(o:Nat){u:QX},Xj b c a u->Xj b c a (u.setCells g o vs)
 |[],_,_,h=>h
 |v :: r,o,_,h=>by rw[World.setCells];exact Xj.sets d h2 r (o+1) (h.setCell (p:=⟨g,o,none⟩) d h2 v)
def jO(Kq:List Qz)(Kj:List QV)(sl:List Q_):Prop:=bC Kq 0/\fJ Kj/\sl.length<=Kq.length/\OQ Kq Kj sl
theorem jO.good{Kj:List QV}{a:List Q_}(h:jO Kq Kj a):fU Kq a:=by
 obtain⟨_,_,_,k,L,c,_,_,rfl⟩:=h;exact c
structure di where
 name:QV
 fin:Int
 slot:Nat
structure aU where
 at':Int
 worker:Nat
 name:QV
structure bP where
 T:List Q_
 busy:List (Option di)
 slots:List aU
 back:List Int
 cause:QV->Int
def aR(W:bf)(n:QV):Int:=match W n with
 |some a=>a.cost
 |none=>0
def doN(W:bf)(T:List Q_)(n:QV):List Q_:=match Qq T n with
 |some r=>doL W T r
 |none=>T
open Classical in
noncomputable def doneS (W:bf) (S:bP) (n:QV) (j:Int):bP:=
 {S with T:=doN W S.T n,cause:=λm=>if aT W (Qq (doN W S.T n)) m/\(m=n\/¬aT W (Qq S.T) m) then j else S.cause m}
def Sp(W:bf)(S:bP)(n:QV):Prop:=∃r,Qq S.T n=some r/\bg W (Qq S.T) r/\r.Zq=20
def Bz(S:bP)(n:QV):Prop:=∃(k:Nat)(e:di),S.busy[k]? =some (some e)/\e.name=n
def Of(W:bf)(S:bP)(n:QV):Prop:=aT W (Qq S.T) n/\¬Bz S n
def Md(W:bf)(n m:QV):Prop:=aR W m<aR W n\/(aR W n=aR W m/\aQ n m)
def Aw(P:QV->Prop)(lt:QV->QV->Prop)(n:QV):Prop:=P n/\∀m,P m->m≠n->lt n m
def iw(W:bf)(S:bP)(t:Int)(k:Nat)(n:QV):bP:=
 {S with busy:=S.busy.set k (some ⟨n,t+aR W n,S.slots.length⟩),slots:=S.slots++[⟨t,k,n⟩],back:=S.back++[S.cause n]}
inductive ng (W:bf)(t:Int):bP->bP->Prop
 |stop {S:bP} (h:∀(k:Nat)(e:di),S.busy[k]? =some (some e)->e.fin≠t):ng W t S S
 |go {S S':bP} {k:Nat} {e:di} (hk:S.busy[k]? =some (some e)) (he:e.fin=t) (hl:∀(k':Nat)(e':di),k'≠k->S.busy[k']? =some (some e')->e'.fin=t->aQ e.name e'.name)
   (h:ng W t (doneS W {S with busy:=S.busy.set k none} e.name e.slot) S'):ng W t S S'
inductive oO (W:bf):bP->bP->Prop
 |stop {S:bP} (h:∀n,¬Sp W S n):oO W S S
 |go {S S':bP} {n:QV} (hn:Aw (Sp W S) aQ n) (h:oO W (doneS W S n (S.cause n)) S'):oO W S S'
inductive nD (W:bf)(t:Int):bP->bP->Prop
 |stop {S:bP} (h:(∀k:Nat,S.busy[k]?≠some none)\/∀n,¬Of W S n):nD W t S S
 |go {S S':bP} {k:Nat} {n:QV} (hk:S.busy[k]? =some none) (hl:∀k':Nat,k' < k->S.busy[k']?≠some none) (hn:Aw (Of W S) (Md W) n) (h:nD W t (iw W S t k n) S'):nD W t S S'
def mM(W:bf)(t:Int)(S S3:bP):Prop:=∃S1 S2,ng W t S S1/\oO W S1 S2/\nD W t S2 S3
def yP(S:bP):Prop:=∀(k:Nat)(e:di),S.busy[k]?≠some (some e)
inductive rX (W:bf):Int->bP->Int->bP->Prop
 |last {t:Int} {S S3:bP} (h:mM W t S S3) (hi:yP S3):rX W t S t S3
 |next {t t' u:Int} {S S3 S':bP} (h:mM W t S S3) (ht:∃(k:Nat)(e:di),S3.busy[k]? =some (some e)/\e.fin=t') (hl:∀(k:Nat)(e:di),S3.busy[k]? =some (some e)->t'<=e.fin) (hw:rX W t' S3 u S'):rX W t S u S'
structure Ez (W:bf)(t:Int)(S:bP):Prop where
 spt:∀n,¬Sp W S n
 beg:(∀k:Nat,S.busy[k]?≠some none)\/∀n,¬Of W S n
 fin:∀(k:Nat)(e:di),S.busy[k]? =some (some e)->t<e.fin
variable {α:Type}
theorem ib{l:List (Option α)}{k j:Nat}{x:Option α}{y:α}(h:(l.set k x)[j]? =some (some y)):(j=k/\x=some y)\/(j≠k/\l[j]? =some (some y)):=by
 by_cases e:j=k
 .subst e;rw[List.getElem?_set] at h;simp only[if_true] at h
  split at h
  .exact .inl ⟨rfl,by simpa using h⟩
  .cases h
 .rw[List.getElem?_set,QJ λx=>e x.symm] at h;exact .inr ⟨e,h⟩
def sW(t:Int)(S:bP):Prop:=∀(k:Nat)(e:di),S.busy[k]? =some (some e)->t<=e.fin
variable {W:bf}{t:Int}{A S:bP}
theorem ng.behind(h:ng W t S A)(b:sW t S):∀(k:Nat)(e:di),A.busy[k]? =some (some e)->t<e.fin:=by
 induction h with
 |stop h=>exact λk e a=>by have:=b k e a;have:=h k e a;omega
 |go a he hl _ ih=>
  refine ih λc d f=>?_;rcases ib f with⟨_,x⟩|⟨_,x⟩
  .cases x
  .exact b c d x
theorem oO.busy(h:oO W S A):A.busy=S.busy/\∀n,¬Sp W A n:=by
 induction h with
 |stop h=>exact⟨rfl,h⟩
 |go _ _ ih=>exact ih
theorem nD.behind(h:nD W t S A)(a:∀n,aT W (Qq S.T) n->0<aR W n)(b:∀(k:Nat)(e:di),S.busy[k]? =some (some e)->t<e.fin)(c:∀n,¬Sp W S n):Ez W t A:=by
 induction h with
 |stop h=>exact⟨c,h,b⟩
 |go hk hl hn _ ih=>
  refine ih a (λd f i=>?_) c;rcases ib i with⟨_,x⟩|⟨_,x⟩
  .simp only[Ql] at x;subst x;have:=a _ hn.1.1;simp only;omega
  .exact b d f x
def JL(W:bf):Prop:=∀n a,W n=some a->0<a.cost
def Gy(W:bf)(S:bP):Prop:=∀n r,Qq S.T n=some r->(W n).isSome=true
theorem Gy.cost(h:Gy W S)(c:JL W):∀n,aT W (Qq S.T) n->0<aR W n:=λn ⟨r,e,_⟩=>by
 obtain⟨f,a⟩:=PV.1 (h n r e);unfold aR;rw[a];exact c n f a
variable {n:QV}{T:List Q_}
theorem yH(b:d_ T)(h:∀m r,Qq T m=some r->(W m).isSome=true):d_ (doN W T n)/\∀m r,Qq (doN W T n) m=some r->(W m).isSome=true:=by
 unfold doN
 split
 .next r hr=>
  refine⟨CS b,λm x a=>?_⟩;rw[jT b hr,eD hr] at a
  split at a
  .next e=>rw[e];exact h n r hr
  .split at a
   .next y hy=>exact h m y hy
   .split at a
    .next g=>exact g.2
    .cases a
 .exact⟨b,h⟩
structure Ok8 (W:bf)(S:bP):Prop where
 asc:d_ S.T
 known:Gy W S
theorem Ok8.done{j:Int}(h:Ok8 W S):Ok8 W (doneS W S n j):=⟨(yH h.asc h.known).1,(yH h.asc h.known).2⟩
theorem ng.ok(h:ng W t S A)(a:Ok8 W S):Ok8 W A:=by
 induction h with
 |stop=>exact a
 |go _ _ _ _ ih=>exact ih (Ok8.done ⟨a.asc,a.known⟩)
theorem oO.ok(h:oO W S A)(a:Ok8 W S):Ok8 W A:=by
 induction h with
 |stop=>exact a
 |go _ _ ih=>exact ih a.done
theorem nD.ok(h:nD W t S A)(a:Ok8 W S):Ok8 W A:=by
 induction h with
 |stop=>exact a
 |go _ _ _ _ ih=>exact ih ⟨a.asc,a.known⟩
theorem mM.rest(h:mM W t S A)(f:Ok8 W S)(i:JL W)(j:sW t S):Ez W t A/\Ok8 W A:=by
 obtain⟨m,n,a,b,c⟩:=h;have k:=a.ok f;have d:=b.ok k;obtain⟨e,l⟩:=b.busy;exact⟨c.behind (d.known.cost i) (by rw[e];exact a.behind j) l,c.ok d⟩
noncomputable def dones (W:bf) (S:bP) (ps:List (Nat×di)):bP:=ps.foldl (λA p=>doneS W A p.2.name p.2.slot) S
structure kN (W:bf)(wk:Nat)(S:bP):Prop where
 ok:Ok8 W S
 len:S.busy.length=wk
 diff:∀(k k':Nat)(e e':di),S.busy[k]? =some (some e)->S.busy[k']? =some (some e')->e.name=e'.name->k=k'
 rdy:∀(k:Nat)(e:di),S.busy[k]? =some (some e)->aT W (Qq S.T) e.name
 back:S.back.length=S.slots.length
 slot:∀(k:Nat)(e:di),S.busy[k]? =some (some e)->e.slot<S.slots.length
 fin:∀(k:Nat)(e:di),S.busy[k]? =some (some e)->∃s,S.slots[e.slot]? =some s/\s.name=e.name/\s.worker=k/\e.fin=s.at'+aR W e.name
 jb:∀n, -1<=S.cause n/\S.cause n<S.slots.length
 prev:∀(p:Nat)(c:Int),S.back[p]? =some c-> -1<=c/\c<p
 work:∀(p:Nat)(s:aU),S.slots[p]? =some s->s.worker<wk
theorem mK{m:QV}(b:d_ T)(c:aT W (Qq T) n)(d:aT W (Qq T) m)(h:m≠n):aT W (Qq (doN W T n)) m:=by
 obtain⟨r,e,f⟩:=d;obtain⟨x,a,_⟩:=c;unfold doN;rw[a];simp only;rw[jT b a];exact⟨r,fD h e,f.mono ⟨x,a, ‹_›⟩⟩
variable {wk:Nat}
open Classical in
theorem kN.done{j:Int}(h:kN W wk S)(b:aT W (Qq S.T) n)(c:¬Bz S n)(d: -1<=j/\j<S.slots.length):kN W wk (doneS W S n j) where
 ok:=h.ok.done
 len:=h.len
 diff:=h.diff
 rdy:=λk e a=>mK h.ok.asc b (h.rdy k e a) λx=>c ⟨k,e,a,x⟩
 back:=h.back
 slot:=h.slot
 fin:=h.fin
 jb:=λm=>by
  show -1<=(if _ then j else S.cause m)/\(if _ then j else S.cause m)<_
  split
  .exact d
  .exact h.jb m
 prev:=h.prev
 work:=h.work
theorem kN.free{k:Nat}{e:di}(h:kN W wk S)(l:S.busy[k]? =some (some e)):kN W wk {S with busy:=S.busy.set k none}/\¬Bz {S with busy:=S.busy.set k none} e.name:=by
 have f:∀(c:Nat)(i:di),(S.busy.set k none)[c]? =some (some i)->c≠k/\S.busy[c]? =some (some i):=λc i j=>by
  rcases ib j with⟨_,x⟩|x
  .cases x
  .exact x
 refine⟨⟨⟨h.ok.asc,h.ok.known⟩,by show (S.busy.set k none).length=wk;rw[QE];exact h.len,λa b x y d m=>h.diff a b x y (f a x d).2 (f b y m).2,λa x d=>h.rdy a x (f a x d).2,h.back,λa x d=>h.slot a x (f a x d).2,λa x d=>h.fin a x (f a x d).2,h.jb,h.prev,h.work⟩,?_⟩;rintro⟨c,i,j,n⟩;obtain⟨p,q⟩:=f c i j;exact p (h.diff c k i e q l n)
theorem kN.begin{k:Nat}(h:kN W wk S)(C:S.busy[k]? =some none)(m:Of W S n):kN W wk (iw W S t k n):=by
 have D:k<S.busy.length:=(PG.1 C).1;have i:∀(j:Nat)(l:di),(S.busy.set k (some ⟨n,t+aR W n,S.slots.length⟩))[j]? =some (some l)->(j=k/\l= ⟨n,t+aR W n,S.slots.length⟩)\/(j≠k/\S.busy[j]? =some (some l)):=λj l E=>by
  rcases ib E with⟨x,y⟩|x
  .simp only[Ql] at y;exact .inl ⟨x,y.symm⟩
  .exact .inr x
 refine⟨⟨h.ok.asc,h.ok.known⟩,by show (S.busy.set k _).length=wk;rw[QE];exact h.len,?_,?_,by show (S.back++_).length= (S.slots++_).length;simp[h.back],?_,?_,?_,?_,?_⟩
 .intro a b x y f F q;rcases i a x f with⟨rfl,rfl⟩|⟨I,e⟩<;>rcases i b y F with⟨rfl,rfl⟩|⟨J,B⟩
  .rfl
  .exact QK ⟨b,y,B,q.symm⟩ m.2
  .exact QK ⟨a,x,e,q⟩ m.2
  .exact h.diff a b x y e B q
 .intro a x f;rcases i a x f with⟨rfl,rfl⟩|⟨_,e⟩
  .exact m.1
  .exact h.rdy a x e
 .intro a x f;show x.slot<(S.slots++_).length;rw[Qi];rcases i a x f with⟨rfl,rfl⟩|⟨_,e⟩
  .simp
  .have:=h.slot a x e;omega
 .intro a x f;rcases i a x f with⟨rfl,rfl⟩|⟨_,e⟩
  .exact⟨⟨t,a,n⟩,by show (S.slots++_)[S.slots.length]? =_;simp,rfl,rfl,rfl⟩
  .obtain⟨s,G,H⟩:=h.fin a x e;exact⟨s,by show (S.slots++_)[x.slot]? =_;rw[Qx (h.slot a x e)];exact G,H⟩
 .intro r;show -1<=S.cause r/\S.cause r<(((S.slots++[_]).length:Nat):Int);have:=h.jb r;rw[Qi];exact⟨this.1,D7⟩
 .intro p c v;have d:(S.back++[S.cause n])[p]? =some c:=v;by_cases w:p<S.back.length
  .rw[Qx w] at d;exact h.prev p c d
  .rw[Qy A7] at d;have z:=(PG.1 d).1;simp only[QQ] at z;have A:p=S.back.length:=A7;subst A;simp only[Nat.sub_self,QA,Ql] at d;subst d;have:=h.jb n;rw[h.back];exact this
 .intro p s v;have d:(S.slots++[⟨t,k,n⟩])[p]? =some s:=v;by_cases w:p<S.slots.length
  .rw[Qx w] at d;exact h.work p s d
  .rw[Qy A7] at d;have z:=(PG.1 d).1;simp only[QQ] at z;have A:p-S.slots.length=0:=A7;rw[A] at d;simp only[QA,Ql] at d;subst d;rw[<-h.len];exact D
inductive ChR (slots:List aU)(back:List Int):Int->List aU->Prop
 |stop {p:Int} (h:p<0):ChR slots back p []
 |go {p:Nat} {s:aU} {c:Int} {l:List aU} (hs:slots[p]? =some s) (hc:back[p]? =some c) (h:ChR slots back c l):ChR slots back (p:Int) (l++[s])
theorem ChR.unique{b:List aU}{back:List Int}{p:Int}{l a:List aU}(h:ChR b back p l)(g:ChR b back p a):l=a:=by
 induction h generalizing a with
 |stop h=>
  cases g with
  |stop=>rfl
  |go=>omega
 |@go p s c l hs hc _ ih=>
  generalize e:(p:Int)=q at g;cases g with
  |stop g=>omega
  |@go p' s' c' a hs' hc' h'=>
   obtain rfl:p=p':=A7;rw[hs] at hs';rw[hc] at hc';simp only[Ql] at hs' hc';subst hs' hc';rw[ih h']
def yB(W:bf)(slots:List aU)(t:Int)(p:Int):Prop:=
 (p= -1/\∀s∈slots,s.at'+aR W s.name≠t)\/∃(i:Nat)(s:aU),p=i/\slots[i]? =some s/\s.at'+aR W s.name=t/\∀(j:Nat)(x:aU),j<i->slots[j]? =some x->x.at'+aR W x.name≠t
def iR(T:List Q_)(wk:Nat):bP:=⟨T,List.replicate wk none,[],[],λ_=>-1⟩
theorem Ev(d:d_ T)(f:∀n r,Qq T n=some r->(W n).isSome=true):kN W wk (iR T wk):=by
 have b:∀(k:Nat)(e:di),(iR T wk).busy[k]?≠some (some e):=λk e h=>by
  have a:(List.replicate wk (none:Option di))[k]? =some (some e):=h;rw[List.getElem?_replicate] at a
  split at a<;>simp at a
 exact⟨⟨d,f⟩,by show (List.replicate wk none).length=wk;simp,λk _ e _ h=>QK h (b k e),λk e h=>QK h (b k e),rfl,λk e h=>QK h (b k e),λk e h=>QK h (b k e),λ_=>⟨Int.le_refl _,by show (-1:Int)<((([]:List aU).length:Nat):Int);decide⟩,λp c h=>by
  have a:([]:List Int)[p]? =some c:=h;simp at a,λp s h=>by
  have a:([]:List aU)[p]? =some s:=h;simp at a⟩
def DZ(W:bf)(T:List Q_)(wk:Nat)(slots:List aU)(fe:Int)(T':List Q_)(chain:List aU):Prop:=
 ∃A p,rX W 0 (iR T wk) fe A/\A.slots=slots/\A.T=T'/\yB W A.slots fe p/\ChR A.slots A.back p chain
structure ig where
 at':Int
 worker:Int
 name:QV
 fin:Int
 place:Int
 cause:Int
def gZ(c d:Int)(x y:QV):Bool:=if c=d then Op.bytesLess x.toList y.toList else decide (d<c)
def bF(x y:ig):Bool:=if x.fin=y.fin then Op.bytesLess x.name.toList y.name.toList else decide (x.fin<y.fin)
def qG(x y:QV):Bool:=Op.bytesLess x.toList y.toList
def iN(x y:Nat):Bool:=decide ((x:Int)<(y:Int))
theorem xP{x y z:List UInt8}(b:Op.bytesLess y x=false)(h2:Op.bytesLess z y=false):Op.bytesLess z x=false:=by
 cases e:Op.bytesLess z x
 .rfl
 .by_cases a:x=y
  .subst a;rw[h2] at e;cases e
  .cases g:Op.bytesLess x y
   .have:=oI x y g a;rw[b] at this;cases this
   .rw[dX z x y e g] at h2;cases h2
theorem BA :Ahead qG:=⟨λ_=>dB _,λ_ _ _=>dX _ _ _,λ_ _ _=>xP⟩
theorem uL :Ahead iN:=⟨λx=>by simp[iN],λx y z d e=>by simp only[iN,QP] at *;omega,λx y z d e=>by simp only[iN,QN] at *;omega⟩
theorem Bj(c:QV->Int):Ahead (λx y=>gZ (c x) (c y) x y):=by
 refine⟨λx=>?_,λx y z d e=>?_,λx y z d e=>?_⟩
 .simp only[gZ,if_true];exact dB _
 .simp only[gZ] at *;by_cases a:c x=c y<;>by_cases b:c y=c z
  .rw[QI a] at d;rw[QI b] at e;rw[QI (a.trans b)];exact dX _ _ _ d e
  .rw[QJ b] at e;rw[QJ (by rw[a];exact b)];simp only[QP] at *;omega
  .rw[QJ a] at d;rw[QJ (by rw[<-b];exact a)];simp only[QP] at *;omega
  .rw[QJ a] at d;rw[QJ b] at e;simp only[QP] at d e;rw[QJ A7];simp only[QP];omega
 .simp only[gZ] at *;by_cases a:c y=c x<;>by_cases b:c z=c y
  .rw[QI a] at d;rw[QI b] at e;rw[QI (b.trans a)];exact xP d e
  .rw[QJ b] at e;rw[QJ (by rw[<-a];exact b)];simp only[QN] at *;omega
  .rw[QJ a] at d;rw[QJ (by rw[b];exact a)];simp only[QN] at *;omega
  .rw[QJ a] at d;rw[QJ b] at e;simp only[QN] at d e;rw[QJ A7];simp only[QN];omega
theorem AV :Ahead bF:=by
 refine⟨λx=>?_,λx y z c d=>?_,λx y z c d=>?_⟩
 .simp only[bF,if_true];exact dB _
 .simp only[bF] at *;by_cases a:x.fin=y.fin<;>by_cases b:y.fin=z.fin
  .rw[QI a] at c;rw[QI b] at d;rw[QI (a.trans b)];exact dX _ _ _ c d
  .rw[QJ b] at d;rw[QJ (by rw[a];exact b)];simp only[QP] at *;omega
  .rw[QJ a] at c;rw[QJ (by rw[<-b];exact a)];simp only[QP] at *;omega
  .rw[QJ a] at c;rw[QJ b] at d;simp only[QP] at c d;rw[QJ A7];simp only[QP];omega
 .simp only[bF] at *;by_cases a:y.fin=x.fin<;>by_cases b:z.fin=y.fin
  .rw[QI a] at c;rw[QI b] at d;rw[QI (b.trans a)];exact xP c d
  .rw[QJ b] at d;rw[QJ (by rw[<-a];exact b)];simp only[QN] at *;omega
  .rw[QJ a] at c;rw[QJ (by rw[b];exact a)];simp only[QN] at *;omega
  .rw[QJ a] at c;rw[QJ b] at d;simp only[QN] at c d;rw[QJ A7];simp only[QN];omega
structure iU {α:Type}(ah:α->α->Bool)(f:Nat->α)(n:Nat)(P:α->Prop):Prop where
 heap:vB ah f n
 inj:wu f n
 mem:∀x,iJ f n x↔P x
theorem iU.nil{ah:α->α->Bool}{f:Nat->α}{P:α->Prop}(h:∀x,¬P x):iU ah f 0 P:=⟨λ_i _ a=>aS a,λ_i _ a=>aS a,λx=>⟨λ⟨_i,a,_⟩=>aS a,λc=>QK c (h x)⟩⟩
theorem iU.congr{ah:α->α->Bool}{f:Nat->α}{n:Nat}{P Q:α->Prop}(h:iU ah f n P)(e:∀x,P x↔Q x):iU ah f n Q:=⟨h.heap,h.inj,λx=>(h.mem x).trans (e x)⟩
theorem iU.put{ah:α->α->Bool}(a:Ahead ah){f:Nat->α}{n:Nat}{P:α->Prop}{x:α}(h:iU ah f n P)(b:¬P x):iU ah (iO ah f n x) (n+1) (λy=>y=x\/P y):=by
 obtain⟨c,d,e⟩:=Mq a h.heap h.inj (x:=x) λi=>b ((h.mem x).1 i);exact⟨c,e,λy=>(d y).trans (or_congr Iff.rfl (h.mem y))⟩
theorem iU.take{ah:α->α->Bool}(a:Ahead ah){f:Nat->α}{n:Nat}{P:α->Prop}(h:iU ah f (n+1) P):iU ah (fP ah f n) n (λy=>P y/\y≠f 0)/\P (f 0)/\∀y,P y->ah y (f 0)=false:=by
 obtain⟨b,c,d⟩:=IB a h.heap h.inj;refine⟨⟨b,d,λy=>(c y).trans (and_congr (h.mem y) Iff.rfl)⟩,(h.mem _).1 ⟨0,Nat.succ_pos _,rfl⟩,λy e=>?_⟩;obtain⟨i,j,rfl⟩:=(h.mem y).2 e;exact GG a h.heap i j
theorem iU.empty{ah:α->α->Bool}{f:Nat->α}{P:α->Prop}(h:iU ah f 0 P):∀x,¬P x:=λx b=>by
 obtain⟨i,c,_⟩:=(h.mem x).2 b;exact aS c
theorem zZ{P:QV->Prop}(a:P n)(h:∀m,P m->qG m n=false):Aw P aQ n:=⟨a,λm c e=>by
 rcases dA n m with g|g|g
 .exact g
 .exact QK g.symm e
 .have:=h m c;unfold qG at this;unfold aQ at g;rw[this] at g;cases g⟩
theorem zP{P:QV->Prop}(b:P n)(h:∀m,P m->gZ (aR W m) (aR W n) m n=false):Aw P (Md W) n:=⟨b,λm d e=>by
 have:=h m d;unfold gZ at this;by_cases a:aR W m=aR W n
 .rw[QI a] at this;refine .inr ⟨a.symm,?_⟩;rcases dA n m with g|g|g
  .exact g
  .exact QK g.symm e
  .unfold aQ at g;rw[this] at g;cases g
 .rw[QJ a] at this;simp only[QN] at this;exact .inl A7⟩
def jg(W:bf)(slots:List aU)(back:List Int)(p:Nat):ig:=match slots[p]?,back[p]? with
 |some s,some c=>⟨s.at',s.worker,s.name,s.at'+aR W s.name,p,c⟩
 |_,_=>⟨0,0,ByteArray.empty,0,p,0⟩
def BzE(W:bf)(S:bP)(e:ig):Prop:=∃(k:Nat)(x:di),S.busy[k]? =some (some x)/\e=jg W S.slots S.back x.slot
theorem kN.eff(h:kN W wk S){k:Nat}{x:di}(a:S.busy[k]? =some (some x)):∃(t c:Int),jg W S.slots S.back x.slot= ⟨t,k,x.name,x.fin,x.slot,c⟩:=by
 obtain⟨s,b,d,e,f⟩:=h.fin k x a;have i:=h.slot k x a;have j:x.slot<S.back.length:=by rw[h.back];exact i
 refine⟨s.at',S.back[x.slot],?_⟩;unfold jg;rw[b,PE j];simp only;rw[e,d,f]
structure fG (W:bf)(wk:Nat)(S:bP)(Q:QV->Prop)(g:QV->Option Int)(es:Nat->ig)(oF:Nat->QV)(on:Nat)(sF:Nat->QV)(sn:Nat)(eF:Nat->ig)(en:Nat)(fF:Nat->Nat)(fn:Nat):Prop where
 bT:kN W wk S
 gy:∀n,Q n->g n=some (S.cause n)
 gn:∀n,¬Q n->g n=none
 q:∀n,Q n->aT W (Qq S.T) n
 bq:∀n,Bz S n->Q n/\¬Sp W S n
 off:iU (λx y=>gZ (aR W x) (aR W y) x y) oF on λn=>Q n/\¬Bz S n/\¬Sp W S n
 spt:iU qG sF sn λn=>Q n/\Sp W S n
 ends:iU bF eF en (BzE W S)
 free:iU iN fF fn λk=>S.busy[k]? =some none
 wK:∀p,p<S.slots.length->es p=jg W S.slots S.back p
def Cr(g:QV->Option Int)(n:QV)(m:QV):Option Int:=if m=n then none else g m
def BN(g:QV->Option Int)(n:QV)(j:Int)(m:QV):Option Int:=if m=n then some j else g m
def Rdy(W:bf)(S:bP)(n:QV):Prop:=aT W (Qq S.T) n
theorem Sp.ready(h:Sp W S n):Rdy W S n:=let ⟨r,h1,h2,_⟩:=h;⟨r,h1,h2⟩
section
variable {W:bf}{wk:Nat}{S:bP}{Q Q':QV -> Prop}{g:QV -> Option Int}{es:Nat -> ig}{oF:Nat -> QV}{on:Nat}{sF:Nat -> QV}{sn:Nat}{eF:Nat -> ig}{en:Nat}{fF:Nat -> Nat}{fn:Nat}
theorem fG.congr(h:fG W wk S Q g es oF on sF sn eF en fF fn)(e:∀n,Q n↔Q' n):fG W wk S Q' g es oF on sF sn eF en fF fn:=
 ⟨h.bT,λn b=>h.gy n ((e n).2 b),λn b=>h.gn n λx=>b ((e n).1 x),λn b=>h.q n ((e n).2 b),λn b=>⟨(e n).1 (h.bq n b).1,(h.bq n b).2⟩,h.off.congr λn=>and_congr_left' (e n),h.spt.congr λn=>and_congr_left' (e n),h.ends,h.free,h.wK⟩
theorem fG.start(c:kN W wk (iR T wk))(d:iU iN fF wk λk=>k<wk):fG W wk (iR T wk) (λ_=>False) (λ_=>none) es oF 0 sF 0 eF 0 fF wk:=by
 have b:∀(k:Nat)(e:di),(iR T wk).busy[k]?≠some (some e):=λk e h=>by
  have a:(List.replicate wk (none:Option di))[k]? =some (some e):=h;rw[List.getElem?_replicate] at a
  split at a<;>simp at a
 refine⟨c,λ_ h=>h.elim,λ_ _=>rfl,λ_ h=>h.elim,λn ⟨k,e,h,_⟩=>QK h (b k e),.nil λ_ h=>h.1,.nil λ_ h=>h.1,.nil λ_ ⟨k,e,h,_⟩=>b k e h,d.congr λk=>?_,λp f=>aS f⟩;show _↔(List.replicate wk (none:Option di))[k]? =some none;rw[List.getElem?_replicate];by_cases h:k<wk
 .simp[h]
 .simp[h]
theorem fG.MO(h:fG W wk S Q g es oF on sF sn eF en fF fn)(b:Sp W S n)(f:¬Q n):fG W wk S (λm=>m=n\/Q m) (BN g n (S.cause n)) es oF on (iO qG sF sn n) (sn+1) eF en fF fn:=by
 refine⟨h.bT,λm a=>?_,λm a=>?_,λm a=>?_,λm a=>⟨.inr (h.bq m a).1,(h.bq m a).2⟩,h.off.congr λm=>⟨λx=>⟨.inr x.1,x.2⟩,λx=>⟨?_,x.2⟩⟩,?_,h.ends,h.free,h.wK⟩
 .unfold BN;by_cases e:m=n
  .rw[QI e,e]
  .rw[QJ e];exact h.gy m (a.resolve_left e)
 .unfold BN;rw[QJ λe=>a (.inl e)];exact h.gn m λx=>a (.inr x)
 .rcases a with rfl|a
  .exact b.ready
  .exact h.q m a
 .rcases x.1 with e|e
  .subst e;exact QK b x.2.2
  .exact e
 .refine (h.spt.put BA (x:=n) λx=>f x.1).congr λm=>⟨?_,?_⟩
  .rintro (rfl|⟨c,d⟩)
   .exact⟨.inl rfl,b⟩
   .exact⟨.inr c,d⟩
  .rintro⟨rfl|c,d⟩
   .exact .inl rfl
   .exact .inr ⟨c,d⟩
theorem fG.MB(h:fG W wk S Q g es oF on sF sn eF en fF fn)(i:Rdy W S n)(d:¬Sp W S n)(f:¬Q n):fG W wk S (λm=>m=n\/Q m) (BN g n (S.cause n)) es (iO (λx y=>gZ (aR W x) (aR W y) x y) oF on n) (on+1) sF sn eF en fF fn:=by
 refine⟨h.bT,λm a=>?_,λm a=>?_,λm a=>?_,λm a=>⟨.inr (h.bq m a).1,(h.bq m a).2⟩,?_,h.spt.congr λm=>⟨λx=>⟨.inr x.1,x.2⟩,λx=>⟨?_,x.2⟩⟩,h.ends,h.free,h.wK⟩
 .unfold BN;by_cases e:m=n
  .rw[QI e,e]
  .rw[QJ e];exact h.gy m (a.resolve_left e)
 .unfold BN;rw[QJ λe=>a (.inl e)];exact h.gn m λx=>a (.inr x)
 .rcases a with rfl|a
  .exact i
  .exact h.q m a
 .refine (h.off.put (Bj _) (x:=n) λx=>f x.1).congr λm=>⟨?_,?_⟩
  .rintro (rfl|⟨b,c⟩)
   .exact⟨.inl rfl,λj=>f (h.bq m j).1,d⟩
   .exact⟨.inr b,c⟩
  .rintro⟨rfl|b,c⟩
   .exact .inl rfl
   .exact .inr ⟨b,c⟩
 .rcases x.1 with e|e
  .subst e;exact QK x.2 d
  .exact e
theorem Ig(h:fG W wk S (Rdy W S) g es oF on sF sn eF en fF fn)(n:QV):(∀m,Rdy W S m/\m≠n->Cr g n m=some (S.cause m))/\∀m,¬(Rdy W S m/\m≠n)->Cr g n m=none:=by
 constructor
 .rintro m ⟨b,c⟩;unfold Cr;rw[QJ c];exact h.gy m b
 .intro m d;unfold Cr
  split
  .rfl
  .next e=>exact h.gn m λx=>d ⟨x,e⟩
theorem fG.MI(h:fG W wk S (Rdy W S) g es oF on sF sn eF (en+1) fF fn):∃(k:Nat)(x:di),S.busy[k]? =some (some x)/\eF 0=jg W S.slots S.back x.slot/\(eF 0).name=x.name/\(eF 0).fin=x.fin/\(eF 0).worker=k/\(eF 0).place=x.slot/\(∀(a:Nat)(b:di),S.busy[a]? =some (some b)->x.fin<=b.fin)/\
  (∀(a:Nat)(b:di),a≠k->S.busy[a]? =some (some b)->b.fin=x.fin->aQ x.name b.name)/\
  fG W wk {S with busy:=S.busy.set k none} (λn=>Rdy W S n/\n≠x.name) (Cr g x.name) es oF on sF sn (fP bF eF en) en (iO iN fF fn k) (fn+1)/\Rdy W S x.name/\¬Bz {S with busy:=S.busy.set k none} x.name:=by
 obtain⟨D,⟨k,x,j,s⟩,E⟩:=h.ends.take AV;obtain⟨F,G,H⟩:=h.bT.eff j;have p:eF 0= ⟨F,k,x.name,x.fin,x.slot,G⟩:=s.trans H;have I:k<S.busy.length:=(PG.1 j).1;obtain⟨J,w⟩:=h.bT.free j;have r:∀(a:Nat)(f:di),(S.busy.set k none)[a]? =some (some f)↔a≠k/\S.busy[a]? =some (some f):=λa f=>by
  constructor
  .intro l;rcases ib l with⟨_,x⟩|x
   .cases x
   .exact x
  .rintro⟨d,c⟩;rw[PT λe=>d e.symm];exact c
 have t:∀n,n≠x.name->(Bz {S with busy:=S.busy.set k none} n↔Bz S n):=λn q=>by
  constructor
  .rintro⟨a,f,d,c⟩;exact⟨a,f,((r a f).1 d).2,c⟩
  .rintro⟨a,f,d,c⟩;refine⟨a,f,(r a f).2 ⟨λe=>?_,d⟩,c⟩;subst e;rw[j] at d;cases d;exact q c.symm
 have z:=h.bq x.name ⟨k,x,j,rfl⟩;have first:∀(a:Nat)(b:di),S.busy[a]? =some (some b)->x.fin<=b.fin/\(a≠k->b.fin=x.fin->aQ x.name b.name):=λa b l=>by
  obtain⟨K,L,f⟩:=h.bT.eff l;have:=E _ ⟨a,b,l,rfl⟩;rw[f,p] at this;unfold bF at this;simp only at this;by_cases v:b.fin=x.fin
  .rw[QI v] at this;refine⟨A7,λi _=>?_⟩;rcases dA x.name b.name with y|y|y
   .exact y
   .exact QK (h.bT.diff a k b x l j y.symm) i
   .unfold aQ at y;rw[this] at y;cases y
  .rw[QJ v] at this;simp only[QN] at this;exact⟨A7,λ_ e=>QK e v⟩
 obtain⟨M,N⟩:=Ig h x.name;refine⟨k,x,j,s,by rw[p],by rw[p],by rw[p],by rw[p],λa b l=>(first a b l).1,λa b i l=>(first a b l).2 i,⟨J,M,N,λn q=>q.1,λn q=>?_,h.off.congr λn=>?_,h.spt.congr λn=>?_,D.congr λe=>?_,?_,h.wK⟩,z.1,w⟩
 .have i:n≠x.name:=λe=>w (by rw[<-e];exact q)
  have:=h.bq n ((t n i).1 q);exact⟨⟨this.1,i⟩,this.2⟩
 .constructor
  .rintro⟨d,c,m⟩;have i:n≠x.name:=λe=>c (by rw[e];exact⟨k,x,j,rfl⟩)
   exact⟨⟨d,i⟩,λy=>c ((t n i).1 y),m⟩
  .rintro⟨⟨d,i⟩,c,m⟩;exact⟨d,λy=>c ((t n i).2 y),m⟩
 .constructor
  .rintro⟨d,c⟩;exact⟨⟨d,λe=>z.2 (by rw[<-e];exact c)⟩,c⟩
  .rintro⟨⟨d,_⟩,c⟩;exact⟨d,c⟩
 .constructor
  .rintro⟨⟨a,b,d,c⟩,m⟩;refine⟨a,b,(r a b).2 ⟨λe=>?_,d⟩,c⟩;subst e;rw[j] at d;cases d;exact m (c.trans s.symm)
  .rintro⟨a,b,d,c⟩;obtain⟨m,A⟩:=(r a b).1 d;refine⟨⟨a,b,A,c⟩,λe=>m ?_⟩;obtain⟨K,L,f⟩:=h.bT.eff A;have B:jg W S.slots S.back b.slot=eF 0:=c.symm.trans e;rw[f,p] at B;injection B with _ O;exact Int.ofNat.inj O
 .refine (h.free.put uL (x:=k) λy=>by rw[j] at y;cases y).congr λC=>?_
  show _↔(S.busy.set k none)[C]? =some none;by_cases e:C=k
  .subst e;rw[QF I];simp
  .rw[PT λy=>e y.symm];simp[e]
theorem fG.done{j:Int}(h:fG W wk S (λm=>Rdy W S m/\m≠n) g es oF on sF sn eF en fF fn)(f:Rdy W S n)(t:¬Bz S n)(v: -1<=j/\j<S.slots.length):
  fG W wk (doneS W S n j) (λm=>Rdy W S m/\m≠n) g es oF on sF sn eF en fF fn/\∀m,Rdy W (doneS W S n j) m->¬(Rdy W S m/\m≠n)->(doneS W S n j).cause m=j:=by
 have w:∀m,Rdy W S m/\m≠n->(doneS W S n j).cause m=S.cause m:=λm ⟨a,c⟩=>QJ λx=>x.2.elim c λy=>y a
 have e:∀m,Rdy W S m/\m≠n->(Sp W (doneS W S n j) m↔Sp W S m):=λm ⟨⟨r,a,c⟩,l⟩=>by
  obtain⟨B,p,z⟩:=mK h.bT.ok.asc f ⟨r,a,c⟩ l;have d:Qq (doN W S.T n) m=some r:=by
   obtain⟨x,q,_⟩:=f;unfold doN;rw[q];simp only;rw[jT h.bT.ok.asc q];exact fD l a
  rw[d] at p;cases p;constructor
  .rintro⟨y,i,A,k⟩;have s:Qq (doN W S.T n) m=some y:=i;rw[d] at s;cases s;exact⟨r,a,c,k⟩
  .rintro⟨y,i,A,k⟩;rw[a] at i;cases i;exact⟨r,d,z,k⟩
 refine⟨⟨h.bT.done f t v,λm b=>(h.gy m b).trans (congrArg some (w m b).symm),h.gn,λm b=>mK h.bT.ok.asc f b.1 b.2,λm b=>?_,h.off.congr λm=>?_,h.spt.congr λm=>?_,h.ends,h.free,h.wK⟩,λm a c=>?_⟩
 .have:=h.bq m b;exact⟨this.1,λy=>this.2 ((e m this.1).1 y)⟩
 .exact⟨λx=>⟨x.1,x.2.1,λy=>x.2.2 ((e m x.1).1 y)⟩,λx=>⟨x.1,x.2.1,λy=>x.2.2 ((e m x.1).2 y)⟩⟩
 .exact⟨λx=>⟨x.1,(e m x.1).2 x.2⟩,λx=>⟨x.1,(e m x.1).1 x.2⟩⟩
 .refine QI ⟨a,?_⟩;by_cases d:m=n
  .exact .inl d
  .exact .inr λy=>c ⟨y,d⟩
theorem fG.Ka(h:fG W wk S (Rdy W S) g es oF on sF (sn+1) eF en fF fn):Aw (Sp W S) aQ (sF 0)/\g (sF 0)=some (S.cause (sF 0))/\Rdy W S (sF 0)/\¬Bz S (sF 0)/\fG W wk S (λm=>Rdy W S m/\m≠sF 0) (Cr g (sF 0)) es oF on (fP qG sF sn) sn eF en fF fn:=by
 obtain⟨d,⟨c,b⟩,f⟩:=h.spt.take BA;obtain⟨i,j⟩:=Ig h (sF 0);refine⟨zZ b λm a=>f m ⟨a.ready,a⟩,h.gy _ c,c,λk=>(h.bq _ k).2 b,h.bT,i,j,λm a=>a.1,λm a=>⟨⟨(h.bq m a).1,λe=>(h.bq m a).2 (by rw[e];exact b)⟩,(h.bq m a).2⟩,h.off.congr λm=>⟨λx=>⟨⟨x.1,λe=>x.2.2 (by rw[e];exact b)⟩,x.2⟩,λx=>⟨x.1.1,x.2⟩⟩,d.congr λm=>⟨λx=>⟨⟨x.1.1,x.2⟩,x.1.2⟩,λx=>⟨⟨x.1.1,x.2⟩,x.1.2⟩⟩,h.ends,h.free,h.wK⟩
theorem fG.JY(h:fG W wk S (Rdy W S) g es oF on sF 0 eF en fF fn):∀n,¬Sp W S n:=λn a=>h.spt.empty n ⟨a.ready,a⟩
theorem fG.idle(h:fG W wk S Q g es oF on sF sn eF 0 fF fn):yP S:=λk e d=>h.ends.empty _ ⟨k,e,d,rfl⟩
theorem fG.begin(h:fG W wk S (Rdy W S) g es oF (on+1) sF sn eF en fF (fn+1))(C:∀n,¬Sp W S n):S.busy[fF 0]? =some none/\(∀a,a<fF 0->S.busy[a]?≠some none)/\Aw (Of W S) (Md W) (oF 0)/\g (oF 0)=some (S.cause (oF 0))/\
  fG W wk (iw W S t (fF 0) (oF 0)) (Rdy W S) g (λp=>if p=S.slots.length then ⟨t,(fF 0:Nat),oF 0,t+aR W (oF 0),S.slots.length,S.cause (oF 0)⟩ else es p) (fP (λx y=>gZ (aR W x) (aR W y) x y) oF on) on sF sn (iO bF eF en ⟨t,(fF 0:Nat),oF 0,t+aR W (oF 0),S.slots.length,S.cause (oF 0)⟩) (en+1) (fP iN fF fn) fn:=by
 obtain⟨F,⟨w,G,O⟩,H⟩:=h.off.take (Bj _);obtain⟨I,s,J⟩:=h.free.take uL;have D:fF 0<S.busy.length:=(PG.1 s).1;generalize oF 0=n at *;generalize P:fF 0=k at *;have E:Of W S n:=⟨w,G⟩;have K:S.back.length=S.slots.length:=h.bT.back;have z:∀p,p<S.slots.length->jg W (iw W S t k n).slots (iw W S t k n).back p=jg W S.slots S.back p:=λp A=>by
  show jg W (S.slots++_) (S.back++_) p=_;unfold jg;rw[Qx A,Qx A7]
 have B:jg W (iw W S t k n).slots (iw W S t k n).back S.slots.length= ⟨t,(k:Nat),n,t+aR W n,S.slots.length,S.cause n⟩:=by
  show jg W (S.slots++_) (S.back++_) _=_;unfold jg;rw[Qy (Pw _),Qy A7];simp[K]
 have l:∀(a:Nat)(d:di),(iw W S t k n).busy[a]? =some (some d)↔(a=k/\d= ⟨n,t+aR W n,S.slots.length⟩)\/S.busy[a]? =some (some d):=λa d=>by
  show (S.busy.set k _)[a]? =_↔_;by_cases e:a=k
  .subst e;rw[QF D,s];simp[eq_comm]
  .rw[PT λy=>e y.symm];simp[e]
 have v:∀m,Bz (iw W S t k n) m↔m=n\/Bz S m:=λm=>by
  constructor
  .rintro⟨a,d,c,b⟩;rcases (l a d).1 c with⟨_,rfl⟩|i
   .exact .inl b.symm
   .exact .inr ⟨a,d,i,b⟩
  .rintro (rfl|⟨a,d,c,b⟩)
   .exact⟨k,_,(l k _).2 (.inl ⟨rfl,rfl⟩),rfl⟩
   .exact⟨a,d,(l a d).2 (.inr c),b⟩
 refine⟨s,λa Q L=>?_,zP E λm r=>H m ⟨r.1,r.2,C m⟩,h.gy n w,h.bT.begin s E,h.gy,h.gn,h.q,λm r=>?_,F.congr λm=>?_,h.spt,?_,I.congr λj=>?_,λp A=>?_⟩
 .have:=J a L;unfold iN at this;simp only[QN] at this;omega
 .rcases (v m).1 r with rfl|r
  .exact⟨w,C m⟩
  .exact h.bq m r
 .constructor
  .rintro⟨⟨c,b,i⟩,M⟩;exact⟨c,λy=>((v m).1 y).elim M b,i⟩
  .rintro⟨c,b,i⟩;exact⟨⟨c,λy=>b ((v m).2 (.inr y)),i⟩,λe=>b ((v m).2 (.inl e))⟩
 .refine (h.ends.put AV (x:=⟨t,(k:Nat),n,t+aR W n,S.slots.length,S.cause n⟩) ?_).congr λe=>?_
  .rintro⟨a,f,c,b⟩;obtain⟨R,T,d⟩:=h.bT.eff c;rw[d] at b;have:=h.bT.slot a f c;injection b with _ _ _ _ U;omega
  .constructor
   .rintro (rfl|⟨a,f,c,b⟩)
    .exact⟨k,_,(l k _).2 (.inl ⟨rfl,rfl⟩),B.symm⟩
    .exact⟨a,f,(l a f).2 (.inr c),b.trans (z _ (h.bT.slot a f c)).symm⟩
   .rintro⟨a,f,c,b⟩;rcases (l a f).1 c with⟨_,rfl⟩|i
    .exact .inl (b.trans B)
    .exact .inr ⟨a,f,i,b.trans (z _ (h.bT.slot a f i))⟩
 .show _↔(S.busy.set k _)[j]? =some none;by_cases e:j=k
  .subst e;rw[QF D];simp
  .rw[PT λy=>e y.symm];simp[e]
 .have N:p<(S.slots++[_]).length:=A;rw[Qi,QQ] at N;by_cases e:p=S.slots.length
  .simp only[QI e];rw[e];exact B.symm
  .simp only[QJ e];rw[z p A7];exact h.wK p A7
end
structure Ao where
 code:Int
 res:List fE
 chain:List QV
 dZ:Int
 cost:Int
theorem Bp{w w1:QX}{v0 v1 v2 v3 v4:QY}{t:TypeId}(k:K_ (w.alloc (.cells #[v0,v1,v2,v3,v4] t)) w1):w1.cell? ⟨w.heap.size,0,none⟩=some v0/\w1.cell? ⟨w.heap.size,1,none⟩=some v1/\w1.cell? ⟨w.heap.size,2,none⟩=some v2/\w1.cell? ⟨w.heap.size,3,none⟩=some v3/\w1.cell? ⟨w.heap.size,4,none⟩=some v4:=by
 have h:=X_ w #[v0,v1,v2,v3,v4] t;have z:w.heap.size<(w.alloc (.cells #[v0,v1,v2,v3,v4] t)).heap.size:=A9;exact⟨(k.cell z).trans (h 0 _ rfl),(k.cell z).trans (h 1 _ rfl),(k.cell z).trans (h 2 _ rfl),(k.cell z).trans (h 3 _ rfl),(k.cell z).trans (h 4 _ rfl)⟩
def uF(W:bf)(σ:Env)(n:QV):fE:=
 match bI W σ n with
 |some x=>⟨n,true,x.fail,x.text⟩
 |none=>⟨n,false,false,⟨#[]⟩⟩
def xY(σ:Env):Prop:=∀n r,σ n=some r->r.over=false->r.fail=false/\r.text= ⟨#[]⟩
theorem tF{A:gu}{r:Q_}(h:r.fail=false/\r.text= ⟨#[]⟩)(a:(gF A r).1.over=false):(gF A r).1.fail=false/\(gF A r).1.text= ⟨#[]⟩:=by
 unfold gF at a⊢;simp only at a⊢;by_cases b:(stepOf A r.at').fin=true
 .rw[QI b] at a;cases a
 .rw[QJ b];exact h
theorem Gq{W:bf}{σ:Env}{r:Q_}(h:r.fail=false/\r.text= ⟨#[]⟩)(a:(Xx W σ r).1.over=false):(Xx W σ r).1.fail=false/\(Xx W σ r).1.text= ⟨#[]⟩:=by
 unfold Xx at a⊢;cases e:W r.name with
 |none=>exact h
 |some A=>
  rw[e] at a;simp only at a⊢;by_cases b:r.Zq=0
  .rw[QI b] at a⊢;exact tF h a
  .rw[QJ b] at a⊢;cases f:Yz W σ (stepOf A r.at').asks with
   |none=>exact h
   |some xs=>
    rw[f] at a;simp only at a⊢;by_cases c:r.Zq=20
    .rw[QI c] at a;cases a
    .rw[QJ c] at a⊢;by_cases d:(fV (stepOf A r.at') xs).over=true
     .rw[QI d] at a;cases a
     .rw[QJ d] at a⊢;exact tF (by exact h) a
theorem xY.did{W:bf}{σ:Env}(h:xY σ){n:QV}(f:aT W σ n):xY (doX W σ n):=by
 obtain⟨r,c,i⟩:=f;intro m q a d;rw[eD c] at a;by_cases e:m=n
 .rw[QI e] at a;cases a;exact Gq (h n r c i.1) d
 .rw[QJ e] at a;cases b:σ m with
  |some x=>rw[b] at a;cases a;exact h m _ b d
  |none=>
   rw[b] at a;simp only at a
   split at a
   .cases a;exact⟨rfl,rfl⟩
   .cases a
theorem jO.Pk{Kq:List Qz}{Kj:List QV}{b:List Q_}(c:jO Kq Kj b):xY (Qq b):=by
 obtain⟨_,_,_,j,L,f,d,_,rfl⟩:=c;refine d.keeps (P:=xY) (λσ m h e=>h.did e.1) λm r a i=>?_;rw[ik] at a
 split at a
 .cases a;exact⟨rfl,rfl⟩
 .cases a
def bS(l:List fE):List QY:=(l.map fE.cells).flatten
theorem uG(l:List fE):(bS l).length=l.length*4:=by
 induction l with
 |nil=>rfl
 |cons c r ih=>simp only[bS,List.map_cons,List.flatten_cons,Qi,Qn] at ih⊢;rw[ih];simp[fE.cells];omega
theorem qA(l:List fE)(c:fE):bS (l++[c])=bS l++c.cells:=by simp[bS]
theorem rO :∀(l:List fE)(i j:Nat),i<l.length->j<4->(bS l)[i*4+j]? = ((l.getD i fE.zero).cells)[j]?
 |[],_,_,h,_=>aS h
 |c :: r,0,j,_,hj=>by
  have e:bS (c :: r)=c.cells++bS r:=rfl;rw[e,Nat.zero_mul,Qb,Qx (by simpa[fE.cells] using hj)]
  rfl
 |c :: r,i+1,j,h,hj=>by
  have e:bS (c :: r)=c.cells++bS r:=rfl;have b:c.cells.length=4:=rfl;rw[e,Qy (by rw[b];omega),b,show (i+1)*4+j-4=i*4+j by omega,rO r i j (by simpa using h) hj]
  rfl
theorem xV{w:QX}{base:Nat}{t:TypeId}{v:QY}{n:Nat}{l:List fE}(h:w.ownsRow base t 4 v n (bS l)):∃a cap,v=.slice a l.length cap/\si w a l:=by
 have d:n=l.length:=by have:=h.1;rw[uG] at this;omega
 subst d;rcases h.2 with⟨rfl,e⟩|⟨g,cap,m,rfl,p,f,q,_,_,_⟩
 .exact⟨none,0,by rw[e],λi b=>A7⟩
 .refine⟨_,cap,rfl,λi b=>⟨g,0,rfl,aP f,λj u c=>?_⟩⟩;have k:j<4:=by have:=(PG.1 c).1;simpa[fE.cells] using this
  have:=h.cells (g:=g) rfl (i*4+j) u (by rw[rO l i j b k];exact c);rw[Qo,Qb] at this;rw[Qb];exact this
section
variable (W:bf) (σ:Env)
end
theorem Fy{Kq:List Qz}{σ:Env}{n:QV}(d:aX (Kk Kq))(h:dR Kq σ)(b:aT (Kk Kq) σ n):dR Kq (doX (Kk Kq) σ n):=by
 obtain⟨r,b,f⟩:=b;intro m q a;rw[eD b] at a;by_cases e:m=n
 .rw[QI e] at a;cases a;exact⟨by rw[dz,e];exact (h n r b).1,fK d h (h n r b).2 f⟩
 .rw[QJ e] at a;cases c:σ m with
  |some x=>
   rw[c] at a;cases a;exact h m _ c
  |none=>
   rw[c] at a;simp only at a
   split at a
   .rename_i h2
    cases a;exact⟨rfl,iD d h2.2⟩
   .cases a
def rC(l:List QV):Prop:=l.Pairwise aQ
theorem rC.nodup{l:List QV}(h:rC l):l.Nodup:=h.imp λb=>fM b
def Mo(l:List QV)(x:QV)(r:List QV):Prop:=(x∈l/\r=l)\/(x∉l/\∃k,k<=l.length/\r=l.take k++x :: l.drop k/\(∀y∈l.take k,aQ y x)/\∀y∈l.drop k,aQ x y)
theorem Mo.asc{l r:List QV}{x:QV}(h:Mo l x r)(b:rC l):rC r/\∀s,s∈r↔s∈l\/s=x:=by
 rcases h with⟨e,rfl⟩|⟨e,k,n,rfl,f,i⟩
 .exact⟨b,λs=>⟨.inl,λh=>h.elim id λj=>by rw[j];exact e⟩⟩
 .have c:rC (l.take k++l.drop k):=by rw[QB];exact b
  unfold rC at c⊢;rw[P_] at c⊢;refine⟨⟨c.1,QR.2 ⟨i,c.2.1⟩,λa b m d=>?_⟩,λs=>?_⟩
  .rcases Qr.1 d with rfl|d
   .exact f a b
   .exact c.2.2 a b m d
  .rw[PK,Qr];constructor
   .rintro (h|h|h)
    .exact .inl (List.mem_of_mem_take h)
    .exact .inr h
    .exact .inl (List.mem_of_mem_drop h)
   .rintro (h|h)
    .rw[<-QB k l] at h;rcases PK.1 h with h|h
     .exact .inl h
     .exact .inr (.inr h)
    .exact .inr (.inl h)
section
variable (W:bf) (σ:Env)
def NM(s:QV):Prop:=∃q,σ s=some q/\q.over=false
def bK(n s:QV):Prop:=∃r A,σ n=some r/\r.over=false/\r.Zq≠0/\W n=some A/\s∈(stepOf A r.at').asks/\NM σ s
def tT(n:QV)(ns:List QV):Prop:=rC ns/\∀s,s∈ns↔bK W σ n s
def oQ :Prop:=∀n r A,σ n=some r->r.over=false->r.Zq≠0->W n=some A->∀s∈(stepOf A r.at').asks,(W s).isSome=true->(σ s).isSome=true
end
theorem vH{A:gu}{r:Q_}:(gF A r).2= (stepOf A (gF A r).1.at').asks:=by
 unfold gF;simp only
 split<;>rfl
theorem GI{W:bf}{σ:Env}{r:Q_}{A:gu}(c:W r.name=some A)(h:bg W σ r)(a:(Xx W σ r).1.over=false):(Xx W σ r).2= (stepOf A (Xx W σ r).1.at').asks:=by
 unfold Xx at a⊢;rw[c] at a⊢;simp only at a⊢;by_cases b:r.Zq=0
 .rw[QI b];exact vH
 .rw[QJ b] at a⊢;rcases h.2 with i|⟨l,j,d,k⟩
  .exact QK i b
  .rw[c] at d;cases d;rw[k] at a⊢;simp only at a⊢;by_cases e:r.Zq=20
   .rw[QI e] at a;cases a
   .rw[QJ e] at a⊢;by_cases f:(fV (stepOf A r.at') j).over=true
    .rw[QI f] at a;cases a
    .rw[QJ f];exact vH
variable {Kq:List Qz}
theorem oQ.did{σ:Env}(p:oQ (Kk Kq) σ)(q:dR Kq σ){n:QV}(t:aT (Kk Kq) σ n):oQ (Kk Kq) (doX (Kk Kq) σ n):=by
 obtain⟨r,b,v⟩:=t;have w:r.name=n:=(q n r b).1;intro m B A a f h i s j k;rw[eD b] at a;rw[eD b];by_cases e:s=n
 .rw[QI e];rfl
 rw[QJ e];cases y:σ s with
 |some x=>rfl
 |none=>
  simp only;by_cases c:m=n
  .rw[QI c] at a;cases a;subst c;have z:fu (Xx (Kk Kq) σ r).2 s=true:=by
    rw[dh,GI (by rw[w];exact i) v f];exact j
   simp[z,k]
  .rw[QJ c] at a;cases d:σ m with
   |some x=>
    rw[d] at a;cases a;have l:=p m _ A d f h i s j k;rw[y] at l;exact QK l A9
   |none=>
    rw[d] at a;simp only at a
    split at a
    .cases a;exact QK rfl h
    .cases a
theorem jO.asked{Kj:List QV}{c:List Q_}(a:jO Kq Kj c):oQ (Kk Kq) (Qq c):=by
 have d:=iC a.1;obtain⟨_,_,_,j,L,i,f,_,rfl⟩:=a;have h:=f.keeps (P:=λσ:Env=>dR Kq σ/\oQ (Kk Kq) σ) (λσ m h e=>⟨Fy d h.1 e.1,h.2.did h.1 e.1⟩) ⟨(kr d Kj).env,λn r A b k a=>by
  rw[ik] at b
  split at b
  .cases b;exact QK rfl a
  .cases b⟩
 exact h.2
theorem EI{σ:Env}(m:dR Kq σ)(x:oQ (Kk Kq) σ){n:QV}{r:Q_}(d:σ n=some r)(s:QV):s∈pend (Kk Kq) σ r↔bK (Kk Kq) σ n s:=by
 obtain⟨j,hgd⟩:=m n r d;obtain⟨A,b,_⟩:=hgd.act;rw[j] at b;unfold pend;constructor
 .intro h
  split at h
  .cases h
  .rename_i h0
   rw[j,b] at h;simp only[List.mem_filter] at h;obtain⟨e,a⟩:=h;have f:r.over=false:=by
    cases y:r.over
    .rfl
    .exact QK (.inl y) h0
   have i:r.Zq≠0:=λz=>h0 (.inr z)
   refine⟨r,A,d,f,i,b,e,?_⟩;unfold bI at a;cases k:Kk Kq s with
   |none=>rw[k] at a;cases a
   |some B=>
    rw[k] at a;simp only at a;have p:=x n r A d f i b s e (by rw[k];rfl);cases l:σ s with
    |none=>rw[l] at p;cases p
    |some q=>
     rw[l] at a;simp only at a;cases c:q.over
     .exact⟨q,l,c⟩
     .rw[QI c] at a;cases a
 .rintro⟨F,G,t,f,i,v,e,q,c,C⟩;rw[d] at t;cases t;rw[b] at v;cases v;rw[QJ (by rw[f];simp[i]),j,b];simp only[List.mem_filter];refine⟨e,?_⟩;obtain⟨D,E⟩:=m s q c;obtain⟨B,w,_⟩:=E.act;rw[D] at w;unfold bI;rw[w,c];simp[C]
theorem tT.len(f:aX (Kk Kq)){σ:Env}(i:dR Kq σ){n:QV}{ns:List QV}(h:tT (Kk Kq) σ n ns):ns.length<=5:=by
 cases c:ns with
 |nil=>simp
 |cons x l=>
  obtain⟨r,A,d,_,_,b,_⟩:=(h.2 x).1 (by rw[c];simp);obtain⟨j,hgd⟩:=i n r d;obtain⟨k,a,m,p⟩:=hgd.act;rw[j,b] at a;cases a;have v:=(jU (f n A b).1 m p).1;have:=List.Nodup.length_le_of_subset h.1.nodup (l₂:=(stepOf A r.at').asks) (λs q=>by
   obtain⟨w,k,e,_,_,a,t,_⟩:=(h.2 s).1 q;rw[d] at e;cases e;rw[b] at a;cases a;exact t)
  rw[<-c];omega
structure jy (E:QV->QV->Prop)(nm:List QV):Prop where
 asc:rC nm
 all:∀x y,E x y->x∈nm
def dP(E:QV->QV->Prop)(nm:List QV)(p q:Nat):Prop:=∃(hp:p<nm.length)(hq:q<nm.length),E nm[p] nm[q]
variable {best:List Nat}{n p:Nat}
section
variable {E:QV -> QV -> Prop}{nm:List QV}
theorem jy.less(h:jy E nm){q:Nat}(a:p<nm.length)(b:q<nm.length):aQ nm[p] nm[q]↔p<q:=by
 have c:=PM.1 h.asc;constructor
 .intro d;rcases QH p q with e|e|e
  .exact e
  .subst e;exact QK d (aZ _)
  .exact QK d (fC (c q p b a e))
 .exact c p q a b
theorem jy.inj(h:jy E nm){q:Nat}(b:p<nm.length)(c:q<nm.length)(e:nm[p]=nm[q]):p=q:=by
 rcases QH p q with g|g|g
 .have:=(h.less b c).2 g;rw[e] at this;exact QK this (aZ _)
 .exact g
 .have:=(h.less c b).2 g;rw[e] at this;exact QK this (aZ _)
theorem jy.place(h:jy E nm){x y:QV}(c:E x y):∃(p:Nat)(hp:p<nm.length),nm[p]=x:=PN (h.all x y c)
theorem wW{q:Nat}(h:bn (dP E nm) n p q)(c:p<nm.length):∃b:q<nm.length,bn E n nm[p] nm[q]:=by
 induction h with
 |here a=>exact⟨c,.here _⟩
 |step h _ ih=>
  obtain⟨_,d,e⟩:=h;obtain⟨b,f⟩:=ih d;exact⟨b,.step e f⟩
theorem jy.back(h:jy E nm):∀{n:Nat}{p q:Nat}(b:p<nm.length)(a:q<nm.length),bn E n nm[p] nm[q]->bn (dP E nm) n p q:=by
 intro n
 induction n with
 |zero=>intro p q b a c;rw[h.inj b a c.zero];exact .here q
 |succ n ih=>
  intro p q b a c;obtain⟨i,j,d⟩:=c.first
  have:∃(r:Nat)(f:r<nm.length),nm[r]=i:=by
   cases n with
   |zero=>exact⟨q,a,d.zero.symm⟩
   |succ m=>
    obtain⟨l,k,_⟩:=d.first
    exact h.place k
  obtain⟨r,f,rfl⟩:=this;exact .step ⟨b,f,j⟩ (ih f a d)
theorem jy.far(h:jy E nm){q:Nat}(b:p<nm.length)(e:q<nm.length):Far (dP E nm) q n p↔Far E nm[q] n nm[p]:=by
 constructor
 .intro a;exact⟨(wW a.1 b).2,λm c d=>a.2 m c (h.back b e d)⟩
 .intro a;exact⟨h.back b e a.1,λm c d=>a.2 m c (wW d b).2⟩
def Cn(p:Nat->Prop)(x:Nat):Prop:=p x/\∀y,p y->x<=y
inductive mr (R:Nat->Nat->Prop)(t:Nat):Nat->Nat->List Nat->Prop
 |stop (a:Nat):mr R t 1 a [a]
 |step {n:Nat} {a x:Nat} {l:List Nat} (h:Cn (λy=>R a y/\Far R t n y) x) (r:mr R t n x l):mr R t (n+1) a (a :: l)
def nameOf(nm:List QV)(p:Nat):QV:=nm.getD p ByteArray.empty
theorem uS(a:p<nm.length):nameOf nm p=nm[p]:=by simp[nameOf,List.getD,a]
theorem mr.names(h:jy E nm){t:Nat}(f:t<nm.length){a:Nat}{l:List Nat}(i:mr (dP E nm) t n a l)(b:a<nm.length):AQ E nm[t] n nm[a] (l.map (nameOf nm)):=by
 induction i with
 |stop a=>rw[List.map_cons,List.map_nil,uS b];exact .stop _
 |@step n a x l hl r ih=>
  obtain⟨⟨⟨_,c,j⟩,k⟩,p⟩:=hl;rw[List.map_cons,uS b];refine .step ⟨⟨j,(h.far c f).1 k⟩,λy d q=>?_⟩ (ih c);have w:1<=n:=by cases r<;>omega
  obtain⟨m,rfl⟩:∃m,n=m+1:=⟨n-1,A7⟩;obtain⟨z,s,_⟩:=d.2.next;obtain⟨v,e,rfl⟩:=h.place s;have A:=p v ⟨⟨b,e,d.1⟩,(h.far e f).2 d.2⟩;have B:=(h.less e c).1 q;omega
def mi(R:Nat->Nat->Prop)(t n:Nat):Prop:=1<=n/\bn R n t t/\∀m,1<=m->m<n->¬bn R m t t
structure ko (R:Nat->Nat->Prop)(k:Nat)(best:List Nat):Prop where
 no:best=[]->∀t,t<k->∀n,¬mi R t n
 yes:best≠[]->∃t n,t<k/\mi R t n/\mr R t n t best/\best.length=n/\(∀h,h<k->∀j,mi R h j->n<=j/\(h<t->n<j))
theorem ko.start(R:Nat->Nat->Prop):ko R 0 []:=⟨λ_ _t a=>aS a,λh=>QK rfl h⟩
theorem mi.unique{R:Nat->Nat->Prop}{t m:Nat}(h:mi R t n)(g:mi R t m):n=m:=by
 rcases QH n m with e|e|e
 .exact QK h.2.1 (g.2.2 n h.1 e)
 .exact e
 .exact QK g.2.1 (h.2.2 m g.1 e)
theorem ko.skip{R:Nat->Nat->Prop}{k:Nat}(h:ko R k best)(a:∀n,mi R k n->best≠[]/\best.length<=n):ko R (k+1) best:=by
 refine⟨λe t m n b=>?_,λe=>?_⟩
 .by_cases g:t=k
  .subst g;exact (a n b).1 e
  .exact h.no e t A7 n b
 .obtain⟨t,n,p,d,f,i,l⟩:=h.yes e;refine⟨t,n,A7,d,f,i,λq r j c=>?_⟩;by_cases g:q=k
  .subst g;have:=(a j c).2;exact⟨A7,λs=>A7⟩
  .exact l q A7 j c
theorem ko.take{R:Nat->Nat->Prop}{k:Nat}{l:List Nat}(h:ko R k best)(c:mi R k n)(d:mr R k n k l)(f:l.length=n)(a:best=[]\/n<best.length):ko R (k+1) l:=by
 have i:l≠[]:=by cases d<;>simp
 refine⟨λe=>QK e i,λ_=>⟨k,n,A7,c,d,f,λq p j b=>?_⟩⟩;by_cases g:q=k
 .subst g;have:=c.unique b;exact⟨A7,λr=>A7⟩
 .rcases a with rfl|a
  .exact QK b (h.no rfl q A7 j)
  .obtain⟨t,s,v,w,x,y,m⟩:=h.yes (by intro e;rw[e] at a;simp at a);have:=(m q A7 j b).1;exact⟨A7,λ_=>A7⟩
theorem ko.OI(h:jy E nm)(j:ko (dP E nm) nm.length best):A_ E (best.map (nameOf nm)):=by
 have l:∀x n,1<=n->bn E n x x->∃(p:Nat)(a:p<nm.length),nm[p]=x:=λx n f c=>by
  obtain⟨m,rfl⟩:∃m,n=m+1:=⟨n-1,A7⟩;obtain⟨b,j,_⟩:=c.first
  exact h.place j
 have q:∀n p (a:p<nm.length),1<=n->bn E n nm[p] nm[p]->∃m,m<=n/\mi (dP E nm) p m:=by
  intro n
  induction n using Nat.strongRecOn with
  |ind n ih=>
   intro p a f c;by_cases d:∃m,1<=m/\m<n/\bn (dP E nm) m p p
   .obtain⟨m,i,e,r⟩:=d;obtain⟨z,G,A⟩:=ih m e p a i (wW r a).2;exact⟨z,A7,A⟩
   .exact⟨n,Pw _,f,h.back a a c,λm i e r=>d ⟨m,i,e,r⟩⟩
 by_cases s:best=[]
 .refine .inl ⟨λx n f c=>?_,by rw[s];rfl⟩;obtain⟨p,a,rfl⟩:=l x n f c;obtain⟨m,_,d⟩:=q n p a f c;exact j.no s p a m d
 .obtain⟨B,n,k,d,C,_,t⟩:=j.yes s;refine .inr ⟨n,nm[B],d.1,λx v w c=>?_,⟨(wW d.2.1 k).2,λD y F=>?_⟩,C.names h k k⟩
  .obtain⟨p,a,rfl⟩:=l x v w c;obtain⟨m,i,e⟩:=q v p a w c;have:=(t p a m e).1;omega
  .obtain⟨p,a,rfl⟩:=l D n d.1 y;obtain⟨m,i,e⟩:=q n p a d.1 y;have:=(t p a m e).2 ((h.less a k).1 F);omega
end
section
variable (E:QV -> QV -> Prop) (g:QV)
def eO(b:Nat)(x:QV)(v:Nat):Prop:=(aQ x g->v=0)/\(¬aQ x g->(v≠0->eT E g v x/\v<b)/\∀m,m<b->eT E g m x->v=m)
end
variable {x:QV}{n:Nat}
section
variable {E:QV -> QV -> Prop}{g:QV}
theorem eO.start :eO E g 1 x 0:=⟨λ_=>rfl,λ_=>⟨λh=>QK rfl h,λm d b=>by have:=b.1.pos;omega⟩⟩
theorem eO.keep{v:Nat}(h:eO E g n x v)(a:v≠0\/aQ x g):eO E g (n+1) x v:=by
 refine⟨h.1,λb=>?_⟩;rcases a with a|a
 .obtain⟨d,f⟩:=h.2 b;obtain⟨c,i⟩:=d a;exact⟨λ_=>⟨c,A7⟩,λm _ e=>c.unique e⟩
 .exact QK a b
def Hit(E:QV->QV->Prop)(g:QV)(n:Nat)(x s:QV):Prop:=E x s/\((n=1/\s=g)\/(1<n/\aQ g s/\eT E g (n-1) s))
theorem Hw(h:1<=n)(f:∀m,m<n->¬eT E g m x):(∃s,Hit E g n x s)↔eT E g n x:=by
 rcases Nat.lt_or_ge 1 n with d|d
 .obtain⟨q,rfl⟩:∃q,n=q+1:=⟨n-1,A7⟩;rw[eT.succ A7];constructor
  .rintro⟨s,a,⟨b,_⟩|⟨_,b,c⟩⟩
   .omega
   .exact⟨⟨s,a,b,by simpa using c⟩,λm i=>f m A7⟩
  .rintro⟨⟨s,a,b,c⟩,_⟩;exact⟨s,a,.inr ⟨d,b,by simpa using c⟩⟩
 .have:n=1:=A7;subst this;rw[eT.one];constructor
  .rintro⟨s,a,⟨_,rfl⟩|⟨b,_⟩⟩
   .exact a
   .omega
  .intro a;exact⟨g,a,.inl ⟨rfl,rfl⟩⟩
theorem eO.hit(d:1<=n)(h:eO E g n x 0)(c:¬aQ x g)(e:∃s,Hit E g n x s):eO E g (n+1) x n:=by
 have f:∀m,m<n->¬eT E g m x:=λm b a=>by
  have:=(h.2 c).2 m b a;have:=a.1.pos;omega
 have a:=(Hw d f).1 e;exact⟨λi=>QK i c,λ_=>⟨λ_=>⟨a,A7⟩,λm _ b=>a.unique b⟩⟩
theorem eO.miss(d:1<=n)(h:eO E g n x 0)(f:¬aQ x g)(i:¬∃s,Hit E g n x s):eO E g (n+1) x 0:=by
 have b:∀m,m<n->¬eT E g m x:=λm c a=>by
  have:=(h.2 f).2 m c a;have:=a.1.pos;omega
 refine⟨λ_=>rfl,λ_=>⟨λe=>QK rfl e,λm c a=>?_⟩⟩;rcases Nat.lt_or_ge m n with e|e
 .exact QK a (b m e)
 .have:m=n:=A7;subst this;exact QK ((Hw d b).2 a) i
theorem eO.ask{b:Nat}{s:QV}{v:Nat}(h:eO E g b s v)(c:aQ g s)(d:1<n)(f:n<=b):v=n-1↔eT E g (n-1) s:=by
 have a:¬aQ s g:=fC c;constructor
 .intro e;have:=((h.2 a).1 A7).1;rw[e] at this;exact this
 .exact (h.2 a).2 (n-1) A7
theorem eO.whole{names:List QV}(d:∀x y,E x y->x∈names){v:Nat}(h:eO E g (names.length+1) x v)(b:¬aQ x g):(v≠0->eT E g v x)/\(∀m,eT E g m x->v=m):=
 ⟨λe=>((h.2 b).1 e).1,λm c=>(h.2 b).2 m (by have:=c.bound d;omega) c⟩
theorem jY.start(E:QV->QV->Prop):jY E [] []:=⟨λ_ g h=>(by cases h),λh=>QK rfl h⟩
theorem mH.len{a:QV}{l:List QV}(h:mH E g n a l):l.length=n:=by
 induction h with
 |stop=>rfl
 |step _ _ ih=>simp[ih]
theorem jY.skip{a best:List QV}(h:jY E a best){g:QV}(c:∀n,eT E g n g->best≠[]/\best.length<=n)(j:∀x∈a,aQ x g):jY E (a++[g]) best:=by
 refine⟨λe x b n d=>?_,λe=>?_⟩
 .rcases PK.1 b with q|q
  .exact h.no e x q n d
  .rw[PI] at q;subst q;exact (c n d).1 e
 .obtain⟨t,n,f,l,m,p,r⟩:=h.yes e;refine⟨t,n,PK.2 (.inl f),l,m,p,λx b k i=>?_⟩;rcases PK.1 b with q|q
  .exact r x q k i
  .rw[PI] at q;subst q;have:=(c k i).2;exact⟨A7,λs=>QK s (fC (j t f))⟩
theorem jY.take{f best l:List QV}(h:jY E f best){g:QV}(c:eT E g n g)(i:mH E g n g l)(b:best=[]\/n<best.length):jY E (f++[g]) l:=by
 have a:=i.len;have j:l≠[]:=λe=>by rw[e] at a;have:=c.1.pos;simp at a;omega
 refine⟨λe=>QK e j,λ_=>⟨g,n,PK.2 (.inr A9),c,i,a,λx p k d=>?_⟩⟩;rcases PK.1 p with q|q
 .rcases b with rfl|b
  .exact QK d (h.no rfl x q k)
  .obtain⟨t,m,s,v,w,y,r⟩:=h.yes (by intro e;rw[e] at b;simp at b);have:=(r x q k d).1;exact⟨A7,λ_=>A7⟩
 .rw[PI] at q;subst q;have:=c.unique d;exact⟨A7,λa=>QK a (aZ _)⟩
end
variable {l:List QV}
section
variable {E:QV -> QV -> Prop}{g:QV}
structure pE (E:QV->QV->Prop)(g:QV)(n:Nat)(l:List QV)(a:QV)(q:Nat):Prop where
 len:l.length+q=n+1
 pos:1<=q
 far:eT E g q a
 last:∃l0,l=l0++[a]
 rest:∀r,mH E g q a r->mH E g n g (l.dropLast++r)
theorem pE.start{n:Nat}(h:eT E g n g):pE E g n [g] g n:=
 ⟨D7,h.1.pos,h,⟨[],rfl⟩,λr b=>b⟩
theorem pE.next{n q:Nat}{a x:QV}(h:pE E g n l a (q+1))(f:1<=q)(c:m_ (λy=>E a y/\aQ g y/\eT E g q y) x):pE E g n (l++[x]) x q:=by
 obtain⟨j,d⟩:=h.last;refine⟨by have:=h.len;rw[Qi];simp;omega,f,c.1.2.2,⟨l,rfl⟩,λr i=>?_⟩;have e:=h.rest (a :: r) (mH.step c i);rw[List.dropLast_concat];rw[d,List.dropLast_concat] at e;rw[d,List.append_assoc];exact e
theorem pE.done{n:Nat}{a:QV}(h:pE E g n l a 1):mH E g n g l:=by
 obtain⟨e,c⟩:=h.last;have d:=h.rest [a] (mH.stop a);rw[c,List.dropLast_concat] at d;rw[c];exact d
theorem pE.more{n q:Nat}{a:QV}(h:pE E g n l a (q+1))(c:1<=q):∃y,E a y/\aQ g y/\eT E g q y:=((eT.succ c).1 h.far).1
theorem DX{p:QV->Prop}(d:rC l)(e:∀y,p y->y∈l){k:Nat}(f:k<l.length)(h:p l[k])(i:∀y∈l.take k,¬p y):m_ p l[k]:=by
 refine⟨h,λy a b=>?_⟩;obtain⟨j,m,rfl⟩:=PN (e y a);rcases QH j k with c|rfl|c
 .exact i l[j] (by rw[List.mem_take_iff_getElem];exact⟨j,A7,rfl⟩) a
 .exact aZ _ b
 .exact fC b (PM.1 d k j f m c)
end
theorem jY.len{E:QV->QV->Prop}{names best:List QV}(h:jY E names best)(a:∀x y,E x y->x∈names):best.length<=names.length:=by
 by_cases e:best=[]
 .rw[e];exact Py _
 .obtain⟨t,n,_,b,_,c,_⟩:=h.yes e;have:=b.bound a;omega
def iE(W:bf)(n:QV):Int:=match W n with|some A=>A.cost|none=>0
theorem vO{W:bf}{n:QV}{A:gu}(h:W n=some A):iE W n=A.cost:=by unfold iE;rw[h]
def dW(l:List Q_):Int:=(l.map λr=>r.Zq).sum
def bJ(W:bf)(l:List Q_):Int:=(l.map λr=>r.Zq*iE W r.name).sum
theorem vS(l:List Q_)(r:Q_):dW (l++[r])=dW l+r.Zq:=by simp[dW]
theorem xK(W:bf)(l:List Q_)(r:Q_):bJ W (l++[r])=bJ W l+r.Zq*iE W r.name:=by simp[bJ]
theorem lh{W:bf}(a:aX W)(n:QV):0<=iE W n/\iE W n<=20:=by
 unfold iE;cases h:W n with
 |none=>exact⟨Int.le_refl _,A8⟩
 |some A=>have:=(a n A h).1.1;show 0<=A.cost/\A.cost<=20;exact⟨A7,this.2⟩
theorem xU :∀{l:List Q_},(∀r∈l,0<=r.Zq/\r.Zq<=20)->0<=dW l/\dW l<=20*(l.length:Int)
 |[],_=>⟨Int.le_refl _,Int.le_refl _⟩
 |r :: l,h=>by
  have b:=xU (l:=l) λx a=>h x (PS _ a);have c:=h r (List.mem_cons_self ..);have e:dW (r :: l)=r.Zq+dW l:=by simp[dW]
  rw[e,Qn];omega
theorem LY{v c:Int}(a:0<=v/\v<=20)(h2:0<=c/\c<=20):0<=v*c/\v*c<=400:=by
 refine⟨Int.mul_nonneg a.1 h2.1,?_⟩;have b:v*c<=20*c:=Int.mul_le_mul_of_nonneg_right a.2 h2.1;omega
theorem wU{W:bf}(a:aX W):∀{l:List Q_},(∀r∈l,0<=r.Zq/\r.Zq<=20)->0<=bJ W l/\bJ W l<=400*(l.length:Int)
 |[],_=>⟨Int.le_refl _,Int.le_refl _⟩
 |r :: l,h=>by
  have c:=wU a (l:=l) λx b=>h x (PS _ b);have d:=LY (h r (List.mem_cons_self ..)) (lh a r.name);have e:bJ W (r :: l)=r.Zq*iE W r.name+bJ W l:=by simp[bJ]
  rw[e,Qn];omega
variable {Kq:List Qz}
theorem Ha(c:aX (Kk Kq)){l:List Q_}(a:fU Kq l)(f:l.length<=60)(k:Nat):0<=dW (l.take k)/\dW (l.take k)<=1200/\0<=bJ (Kk Kq) (l.take k)/\bJ (Kk Kq) (l.take k)<=24000:=by
 have h:∀r∈l.take k,0<=r.Zq/\r.Zq<=20:=λr b=>⟨(a.good r (List.mem_of_mem_take b)).lo,(a.good r (List.mem_of_mem_take b)).hi⟩
 have d:=xU h;have e:=wU c h;have i:(l.take k).length<=60:=F3;exact⟨d.1,A7,e.1,A7⟩
structure OP (Kq:List Qz)(Kj:List QV)(sl:List Q_)(o:Ao):Prop where
 res:o.res=Kj.map (uF (Kk Kq) (Qq sl))
 dZ:o.dZ=dW sl
 cost:o.cost=bJ (Kk Kq) sl
 rest:((¬∃r∈o.res,r.over=false)/\o.code=0/\o.chain=[])\/((∃r∈o.res,r.over=false)/\(∃r∈sl,bg (Kk Kq) (Qq sl) r)/\o.code=2/\o.chain=[])\/((∃r∈o.res,r.over=false)/\(¬∃r∈sl,bg (Kk Kq) (Qq sl) r)/\o.code=1/\A_ (bK (Kk Kq) (Qq sl)) o.chain)
def Ko :Ao:=⟨9,[],[],0,0⟩
def sM(Kq:List Qz)(Kj:List QV)(sl:List Q_)(o:Ao):Prop:=(o.res.length<=10/\o.chain.length<=60)/\((jO Kq Kj sl/\OP Kq Kj sl o)\/(¬jO Kq Kj sl/\o=Ko))
theorem JC{a:List Q_}(b:fU Kq a){n:QV}(c:n.size<=20):(uF (Kk Kq) (Qq a) n).text.size<=200:=by
 unfold uF;cases h:bI (Kk Kq) (Qq a) n with
 |none=>exact Py _
 |some x=>exact xx b.env c h
theorem jO.NE{Kj:List QV}{d:List Q_}(f:jO Kq Kj d):∀n∈Kj,(∃r∈d,r.name=n)\/Kk Kq n=none:=by
 obtain⟨_,_,_,l,L,p,i,_,rfl⟩:=f;have h:=i.keeps (P:=λσ=>∀n∈Kj,(σ n).isSome=true\/Kk Kq n=none) (λσ m h j n b=>by
  rcases h n b with a|a
  .refine .inl ?_;obtain⟨r,c,_⟩:=j.1;rw[eD c];by_cases e:n=m
   .rw[QI e];rfl
   .rw[QJ e];cases k:σ n with
    |none=>rw[k] at a;cases a
    |some x=>rfl
  .exact .inr a) (λn b=>by
  rw[ik];cases q:Kk Kq n with
  |none=>exact .inr rfl
  |some A=>rw[QI ⟨dh.2 b,rfl⟩];exact .inl rfl)
 intro n b;rcases h n b with a|a
 .obtain⟨r,c⟩:=PV.1 a;exact .inl ⟨r,(bA c).1,(bA c).2⟩
 .exact .inr a
section
variable {E:QV -> QV -> Prop}{x:QV}{out more list:List QV}
end
theorem kY.one{W:bf}{σ:Env}{r:Q_}{L e:List QV}(f:(W r.name).isSome=true)(v:kY W σ r L)(w:kY W σ r e):L=e:=by
 obtain⟨x,c,h⟩:=v;obtain⟨m,b,k⟩:=w;have l:∀{i j:Nat}{A B:List QV},aK W σ r.name i= (r,A)->aK W σ r.name j= (r,B)->(∀q,q<i->bg W σ (aK W σ r.name q).1)->(∀q,q<j->bg W σ (aK W σ r.name q).1)->¬i<j:=λ{i j A B} y n z p C=>by
  have d:=(p i C).1;have s:=gm f z d;rw[y] at d s;have t:=gm f p (by rw[n];exact d);rw[n] at t;simp only at s t;omega
 have:x=m:=by
  have a:=l c b h k;have D:=l b c k h;omega
 subst this;rw[c] at b;exact (Prod.mk.inj b).2
def wV(W:bf)(σ:Env):Prop:=∀n r,σ n=some r->r.name=n/\∃L,kY W σ r L
theorem wV.did{W:bf}{σ:Env}{n:QV}(j:wV W σ)(b:aT W σ n):wV W (doX W σ n):=by
 obtain⟨r,d,l⟩:=b;have b:aT W σ n:=⟨r,d,l⟩;intro m q a;rw[eD d] at a;by_cases e:m=n
 .rw[QI e] at a;cases a;obtain⟨f,L,h⟩:=j n r d;exact⟨by rw[dz,f,e],_,(h.unit l).mono b⟩
 .rw[QJ e] at a;cases i:σ m with
  |some x=>
   rw[i] at a;simp only[Ql] at a;subst a;obtain⟨f,L,h⟩:=j m x i;exact⟨f,L,h.mono b⟩
  |none=>
   rw[i] at a;simp only at a
   split at a
   .cases a;exact⟨rfl,_,kY.start m⟩
   .cases a
section
variable {E:QV -> QV -> Prop}{names done asks out:List QV}{name x:QV}{l0 k:Nat}{b:Bool}
end
structure ClT (W:bf)(σ:Env):Prop where
 MJ:wV W σ
 web:∀n r,σ n=some r->(W n).isSome=true
 cl:∀n r L,σ n=some r->kY W σ r L->∀m∈L,(W m).isSome=true->(σ m).isSome=true
variable {W:bf}{n:QV}{σ:Env}
theorem x_{m:QV}(a:aT W σ n)(h:(σ m).isSome=true):(doX W σ n m).isSome=true:=by
 obtain⟨r,b,_⟩:=a;rw[eD b];by_cases e:m=n
 .rw[QI e];rfl
 .rw[QJ e];obtain⟨x,c⟩:=PV.1 h;rw[c];rfl
theorem ClT.did(h:ClT W σ)(b:aT W σ n):ClT W (doX W σ n):=by
 have v:=h.MJ.did b;obtain⟨r,c,w⟩:=b;have b:aT W σ n:=⟨r,c,w⟩;have z:∀m q,doX W σ n m=some q->(W m).isSome=true:=λm q a=>by
  rw[eD c] at a;by_cases f:m=n
  .rw[f];exact h.web n r c
  .rw[QJ f] at a;cases d:σ m with
   |some x=>exact h.web m x d
   |none=>
    rw[d] at a;simp only at a
    split at a
    .next g=>exact g.2
    .cases a
 refine⟨v,z,λm q L a l y e p=>?_⟩;have s:=(v m q a).1;have t:=z m q a;have D:=a;rw[eD c] at a;by_cases f:m=n
 .rw[QI f] at a;cases a;obtain⟨B,k,i⟩:=h.MJ n r c;have C:kY W (doX W σ n) (Xx W σ r).1 (k++(Xx W σ r).2):=(i.unit w).mono b;have j:=kY.one (by rw[s];exact t) l C;rw[j] at e;rcases PK.1 e with g|g
  .exact x_ b (h.cl n r k c i y g p)
  .rw[eD c];by_cases A:y=n
   .rw[QI A];rfl
   .rw[QJ A];cases E:σ y with
    |some x=>rfl
    |none=>simp only;rw[QI ⟨dh.2 g,p⟩];rfl
 .rw[QJ f] at a;cases d:σ m with
  |some x=>
   rw[d] at a;simp only[Ql] at a;subst a;obtain⟨B,k,i⟩:=h.MJ m x d;have j:=kY.one (by rw[s];exact t) l (i.mono b);rw[j] at e;exact x_ b (h.cl m x k d i y e p)
  |none=>
   rw[d] at a;simp only at a
   split at a
   .cases a;have j:=kY.one (by rw[s];exact t) l (kY.start m);rw[j] at e;cases e
   .cases a
variable {Kq:List Qz}
theorem ClT.start(Kj:List QV):ClT (Kk Kq) (Qq (b_ Kq Kj)):=by
 have d:∀n r,Qq (b_ Kq Kj) n=some r->r=Q_.fresh n/\(Kk Kq n).isSome=true:=λn r b=>by
  rw[ik] at b
  split at b
  .next g=>cases b;exact⟨rfl,g.2⟩
  .cases b
 refine⟨λn r b=>?_,λn r b=>(d n r b).2,λn r L b f y e _=>?_⟩
 .obtain⟨rfl,_⟩:=d n r b;exact⟨rfl,_,kY.start n⟩
 .obtain⟨rfl,h⟩:=d n r b;have i:=kY.one (by exact h) f (kY.start n);rw[i] at e;cases e
variable {τ:Env}{k:Nat}
theorem ClT.led(h:ClT W σ)(b:dx (aT W) (doX W) σ τ k):ClT W τ :=b.keeps (P:=ClT W) (λ_ _ g c=>g.did c) h
theorem xq :∀{m:Nat},k<=m->∀y∈(aK W σ n k).2,y∈(aK W σ n m).2
 |0,h,y,hy=>by
  obtain rfl:k=0:=A7;exact hy
 |m+1,h,y,hy=>by
  by_cases e:k=m+1
  .subst e;exact hy
  .unfold aK;exact PK.2 (.inl (xq (m:=m) A7 y hy))
def EL(W:bf)(σ:Env)(n:QV)(k:Nat):Env:=λm=>if m=n then some (aK W σ n k).1 else match σ m with
 |some x=>some x
 |none=>if fu (aK W σ n k).2 m=true/\(W m).isSome=true then some (Q_.fresh m) else none
theorem Bd :∀(j:Nat){σ:Env}{k0:Nat},σ n=some (aK W σ n k0).1->(∀i,i<k0+j->bg W σ (aK W σ n i).1)->(∀y∈(aK W σ n k0).2,(W y).isSome=true->(σ y).isSome=true)->dx (aT W) (doX W) σ (EL W σ n (k0+j)) j
 |0,σ,k0,h,_,hcl=>by
  have e:EL W σ n (k0+0)=σ:=by
   funext m
   unfold EL;rw[Qp];by_cases e:m=n
   .rw[QI e,e,h]
   .rw[QJ e];cases d:σ m with
    |some x=>rfl
    |none=>
     simp only;rw[QJ];rintro⟨q,r⟩;have:=hcl m (dh.1 q) r;rw[d] at this;cases this
  rw[e];exact .here σ
 |j+1,σ,k0,h,hg,hcl=>by
  have s:=hg k0 A7;have b:aT W σ n:=⟨_,h,s⟩;have c:∀{i:Nat},i<=k0+(j+1)->aK W (doX W σ n) n i=aK W σ n i:=λ{i} t=>j_ b λv B=>hg v A7
  have w:doX W σ n n=some (aK W (doX W σ n) n (k0+1)).1:=by
   rw[iT h,c A7]
   rfl
  have z:=Bd j (σ:=doX W σ n) (k0:=k0+1) w (λi t=>by rw[c A7];exact (hg i A7).mono b) (λy f l=>by
   rw[c A7] at f;have A:y∈(aK W σ n k0).2++(Xx W σ (aK W σ n k0).1).2:=f;rcases PK.1 A with g|g
   .exact x_ b (hcl y g l)
   .rw[eD h];by_cases p:y=n
    .rw[QI p];rfl
    .rw[QJ p];cases C:σ y with
     |some x=>rfl
     |none=>simp only;rw[QI ⟨dh.2 g,l⟩];rfl)
  have e:EL W (doX W σ n) n (k0+1+j)=EL W σ n (k0+(j+1)):=by
   funext m
   unfold EL;rw[show k0+1+j=k0+(j+1) by omega,c A7];by_cases a:m=n
   .rw[QI a,QI a]
   .rw[QJ a,QJ a,eD h,QJ a];cases d:σ m with
    |some x=>rfl
    |none=>
     simp only;by_cases g:fu (Xx W σ (aK W σ n k0).1).2 m=true/\(W m).isSome=true
     .rw[QI g];simp only;rw[QI];refine⟨dh.2 (xq (k:=k0+1) A7 m ?_),g.2⟩;exact PK.2 (.inr (dh.1 g.1))
     .rw[QJ g]
  rw[<-e];exact .step σ _ n j b z
def pF(W:bf)(σ τ :Env):Prop:=∀n,bI W σ n=bI W τ n
theorem pF.answers(h:pF W σ τ):∀l,Yz W σ l=Yz W τ l
 |[]=>rfl
 |a :: l=>by unfold Yz;rw[h a,pF.answers h l]
theorem pF.can(h:pF W σ τ)(r:Q_):bg W σ r↔bg W τ r:=by unfold bg;simp only[h.answers]
theorem pF.next(h:pF W σ τ)(r:Q_):Xx W σ r=Xx W τ r:=by unfold Xx;simp only[h.answers]
theorem pF.again(h:pF W σ τ)(n:QV):∀k,aK W σ n k=aK W τ n k
 |0=>rfl
 |k+1=>by unfold aK;rw[pF.again h n k,h.next]
theorem IQ{j:Nat}(c:dx (aT W) (doX W) σ τ j):(∀i,i<k->bg W σ (aK W σ n i).1)->(∀i,i<=k->aK W τ n i=aK W σ n i)/\∀i,i<k->bg W τ (aK W τ n i).1:=by
 induction c with
 |here s=>exact λh=>⟨λ_ _=>rfl,h⟩
 |step s t m j hr _ ih=>
  intro h;have b:∀{i:Nat},i<=k->aK W (doX W s m) n i=aK W s n i:=λ{i} a=>j_ hr λq f=>h q A7
  obtain⟨d,e⟩:=ih (λi a=>by rw[b A7];exact (h i a).mono hr);exact⟨λi a=>(d i a).trans (b a),e⟩
theorem Nj{j:Nat}(names:List QV)(e:dx (aT W) (doX W) σ τ j):WfX W σ->(∀n,(W n).isSome=true->n∈names)->dQ names τ +j<=dQ names σ:=by
 induction e with
 |here s=>exact λ_ _=>Pw _
 |step s t m j hr _ ih=>
  intro a b;have f:=ih (ze a hr) b;obtain⟨r,d,_⟩:=hr;have h:=(uQ a ⟨r,d,G7⟩ names).2 (b m (a m r d).web);omega
def Js(Kq:List Qz)(Kj:List QV)(sl:List Q_):Prop:=
 fU Kq sl/\(∃k,dx (aT (Kk Kq)) (doX (Kk Kq)) (Qq (b_ Kq Kj)) (Qq sl) k)/\AtEnd (aT (Kk Kq)) (Qq sl)
theorem Js.one{Kj:List QV}{a b:List Q_}(h:Js Kq Kj a)(k:Js Kq Kj b):b=a:=by
 obtain⟨c,⟨l,d⟩,e⟩:=h;obtain⟨f,⟨m,i⟩,j⟩:=k;exact Fs f.asc c.asc (i.unique oP j d e)
structure BC (Kq:List Qz)(Kj:List QV)(sl:List Q_)(o:Ao):Prop where
 fin:Js Kq Kj sl
 res:o.res=Kj.map (uF (Kk Kq) (Qq sl))
 dZ:o.dZ=dW sl
 cost:o.cost=bJ (Kk Kq) sl
 rest:((¬∃r∈o.res,r.over=false)/\o.code=0/\o.chain=[])\/((∃r∈o.res,r.over=false)/\o.code=1/\A_ (bK (Kk Kq) (Qq sl)) o.chain)
def yN(Kq:List Qz)(Kj:List QV)(o:Ao):Prop:=(o.res.length<=10/\o.chain.length<=60)/\((bC Kq 0/\fJ Kj/\∃sl,BC Kq Kj sl o)\/(¬(bC Kq 0/\fJ Kj)/\o=Ko))
theorem dx.zero{α ι :Type}{ready:α-> ι ->Prop}{step:α-> ι ->α}{s t:α}(h:dx ready step s t k)(c:k=0):t=s:=by
 cases h with
 |here=>rfl
 |step=>omega
theorem lZ(A B:List Q_)(m:QV):Qq (A++B) m=match Qq A m with|some r=>some r|none=>Qq B m:=by
 unfold Qq;rw[List.find?_append];cases A.find? λr=>decide (r.name=m)<;>rfl
variable {l:List Q_}
theorem tH :Qq l n=none↔n∉l.map (·.name):=by
 unfold Qq;rw[List.find?_eq_none];constructor
 .intro h b;obtain⟨r,a,e⟩:=PX.1 b;exact h r a (by simpa using e)
 .intro h r a e;exact h (PX.2 ⟨r,a,by simpa using e⟩)
theorem mP(d:(l.map (·.name)).Nodup):∀x∈l,∀y∈l,x.name=y.name->x=y:=by
 intro x f y h e;obtain⟨i,a,rfl⟩:=PN f;obtain⟨j,b,rfl⟩:=PN h;have c:=PM.1 d;have:i=j:=by
  rcases QH i j with g|g|g
  .exact QK (by rw[List.getElem_map,List.getElem_map];exact e) (c i j (by simpa using a) (by simpa using b) g)
  .exact g
  .exact QK (by rw[List.getElem_map,List.getElem_map];exact e.symm) (c j i (by simpa using b) (by simpa using a) g)
 subst this
 rfl
theorem gD(h:(l.map (·.name)).Nodup){r:Q_}(b:r∈l):Qq l r.name=some r:=(qV (mP h)).2 ⟨b,rfl⟩
variable {i:Nat}
theorem ll(a:i<l.length):l.getD i Q_.zero∈l:=by simp[List.getD,a]
theorem r_{r:Q_}(a:i<l.length)(b:r.name= (l.getD i Q_.zero).name):(l.set i r).map (·.name)=l.map (·.name):=by
 rw[List.map_set];have:(l.map (·.name))[i]'(by simpa using a)=r.name:=by simp[b,List.getD,a]
 rw[<-this,List.set_getElem_self]
theorem KL(j:(l.map (·.name)).Nodup){r:Q_}(a:i<l.length)(b:r.name= (l.getD i Q_.zero).name)(m:QV):Qq (l.set i r) m=if m=r.name then some r else Qq l m:=by
 have c:((l.set i r).map (·.name)).Nodup:=by rw[r_ a b];exact j
 by_cases e:m=r.name
 .rw[QI e,e];exact gD c (List.mem_iff_getElem.2 ⟨i,by simpa using a,A9⟩)
 .rw[QJ e];cases d:Qq l m with
  |none=>rw[tH,r_ a b];exact tH.1 d
  |some x=>
   obtain⟨k,f⟩:=bA d;refine (qV (mP c)).2 ⟨?_,f⟩;obtain⟨n,h,rfl⟩:=PN k;refine List.mem_iff_getElem.2 ⟨n,by simpa using h,?_⟩;rw[List.getElem_set_ne];rintro rfl;exact e (by rw[<-f,b];simp[List.getD,h])
theorem lM(W:bf):∀(bs:List QV)(l:List Q_),(l.map (·.name)).Nodup->∃G,dw W l bs=l++G/\(∀g∈G,g=Q_.fresh g.name/\(W g.name).isSome=true)/\((dw W l bs).map (·.name)).Nodup
 |[],l,h=>⟨[],by unfold dw;simp,λg a=>(by cases a),by unfold dw;exact h⟩
 |b :: bs,l,h=>by
  unfold dw;by_cases c:(W b).isSome=true/\(Qq l b).isNone=true
  .have i:b∉l.map (·.name):=tH.1 (by simpa using c.2);have j:((l++[Q_.fresh b]).map (·.name)).Nodup:=by
    rw[QM,List.map_cons,List.map_nil];exact List.nodup_append.2 ⟨h,A9,λx d y f e=>by rw[PI] at f;rw[e,f] at d;exact i d⟩
   obtain⟨G,k,m,n⟩:=lM W bs (l++[Q_.fresh b]) j;rw[QI c];refine⟨Q_.fresh b :: G,by rw[k];simp,λg a=>?_,n⟩;rcases Qr.1 a with e|e
   .rw[e];exact⟨rfl,c.1⟩
   .exact m g e
  .rw[QJ c];exact lM W bs l h
variable {L:List Q_}
theorem LV{F:List Q_}(h:∀r∈F,r=Q_.fresh r.name):pF W (Qq (L++F)) (Qq L):=λn=>by
 unfold bI;cases W n with
 |none=>rfl
 |some A=>
  simp only;rw[lZ];cases e:Qq L n with
  |some r=>rfl
  |none=>
   simp only;cases d:Qq F n with
   |none=>rfl
   |some r=>
    have:r.over=false:=by rw[h r (bA d).1];rfl
    simp only;rw[this]
    rfl
structure mg (Kq:List Qz)(L R nx:List Q_)(i:Nat)(b:Bool):Prop where
 len:nx.length=L.length
 pre:∃F,R=L++F/\∀r∈F,r=Q_.fresh r.name/\(Kk Kq r.name).isSome=true
 dif:(R.map (·.name)).Nodup
 nam:nx.map (·.name)=L.map (·.name)
 nxt:∀j,j<i->j<L.length->∃k,nx.getD j Q_.zero= (aK (Kk Kq) (Qq L) (L.getD j Q_.zero).name k).1/\(∀m,m<k->bg (Kk Kq) (Qq L) (aK (Kk Kq) (Qq L) (L.getD j Q_.zero).name m).1)/\¬bg (Kk Kq) (Qq L) (nx.getD j Q_.zero)
 oth:∀j,i<=j->nx.getD j Q_.zero=L.getD j Q_.zero
 led:∃k,dx (aT (Kk Kq)) (doX (Kk Kq)) (Qq L) (Qq (nx++R.drop L.length)) k
 yes:b=true->∃j,j<L.length/\nx.getD j Q_.zero≠L.getD j Q_.zero
 no:b=false->∀j,j<i->j<L.length->(nx.getD j Q_.zero).Zq= (L.getD j Q_.zero).Zq/\(nx.getD j Q_.zero).over= (L.getD j Q_.zero).over
theorem mg.start(h:(L.map (·.name)).Nodup):mg Kq L L L 0 false:=
 ⟨rfl,⟨[],A9,λr c=>(by cases c)⟩,h,rfl,λj b=>aS b,λ_ _=>rfl,⟨0,by rw[List.drop_length,List.append_nil];exact .here _⟩,λh=>(by cases h),λ_ j b=>aS b⟩
variable {R nx:List Q_}
theorem mg.nd{b:Bool}(h:mg Kq L R nx i b):((nx++R.drop L.length).map (·.name)).Nodup/\(L.map (·.name)).Nodup:=by
 obtain⟨F,d,_⟩:=h.pre;have c:=h.dif;rw[d,QM] at c;refine⟨?_,(List.nodup_append.1 c).1⟩;rw[d,List.drop_left,QM,h.nam];exact c
theorem mg.ans{b:Bool}(h:mg Kq L R nx i b):pF (Kk Kq) (Qq R) (Qq L):=by
 obtain⟨F,c,d⟩:=h.pre;rw[c];exact LV λr f=>(d r f).1
theorem mg.next{b P:Bool}(h:mg Kq L R nx i b)(Q:ClT (Kk Kq) (Qq L))(s:i<L.length)(t:n= (L.getD i Q_.zero).name)(D:∀j,j<k->bg (Kk Kq) (Qq R) (aK (Kk Kq) (Qq R) n j).1)(h2:¬bg (Kk Kq) (Qq R) (aK (Kk Kq) (Qq R) n k).1)(v:P= (b || decide ((aK (Kk Kq) (Qq R) n k).1.Zq≠(L.getD i Q_.zero).Zq) || decide ((aK (Kk Kq) (Qq R) n k).1.over≠(L.getD i Q_.zero).over))):
  mg Kq L (dw (Kk Kq) R (aK (Kk Kq) (Qq R) n k).2) (nx.set i (aK (Kk Kq) (Qq R) n k).1) (i+1) P:=by
 have w:=h.nd;have S:=h.ans;simp only[S.again n,S.can] at D h2 v⊢;obtain⟨F,y,hf⟩:=h.pre;obtain⟨f,l⟩:=aj ((aK (Kk Kq) (Qq L) n k).1);obtain⟨E,T⟩:=aj ((aK (Kk Kq) (Qq L) n k).2);rw[<-l] at h2 v⊢;rw[<-T];have U:f.name=n:=by rw[l];exact mQ k
 obtain⟨G,H,g2,g3⟩:=lM (Kk Kq) E R h.dif;have z:i<nx.length:=by rw[h.len];exact s
 have I:(nx.getD i Q_.zero)=L.getD i Q_.zero:=h.oth i (Pw _);have V:f.name= (nx.getD i Q_.zero).name:=by rw[U,t,I]
 have a2:(nx.map (·.name)).Nodup:=by rw[h.nam];exact w.2
 have c:∀j,(nx.set i f).getD j Q_.zero=if j=i then f else nx.getD j Q_.zero:=λj=>by
  by_cases e:j=i
  .subst e;rw[QI rfl];simp[List.getD,z]
  .rw[QJ e];simp[List.getD,PT (Ne.symm e)]
 refine⟨by rw[QE];exact h.len,⟨F++G,by rw[H,y,List.append_assoc],λX hr=>?_⟩,g3,by rw[r_ z V];exact h.nam,λj d J=>?_,λj d=>?_,?_,λK=>?_,λp j d J=>?_⟩
 .rcases PK.1 hr with e|e
  .exact hf X e
  .exact g2 X e
 .rw[c];by_cases e:j=i
  .subst e;rw[QI rfl,<-t];exact⟨k,l,D,h2⟩
  .rw[QJ e];exact h.nxt j A7 J
 .rw[c,QJ A7];exact h.oth j A7
 .obtain⟨k1,A⟩:=h.led;have Y:=Q.led A;obtain⟨q,M⟩:=IQ (n:=n) (k:=k) A D;have a3:R.drop L.length=F:=by rw[y,List.drop_left]
  have a4:(dw (Kk Kq) R E).drop L.length=F++G:=by rw[H,y,List.append_assoc,List.drop_left]
  rw[a3] at A Y q M w;rw[a4];obtain⟨τ,hτ⟩:=aj (Qq (nx++F));have a5:L.getD i Q_.zero∈nx++F:=PK.2 (.inl (by rw[<-I];exact ll z));have Z:Qq (nx++F) n=some (L.getD i Q_.zero):=by rw[t];exact gD w.1 a5
  -- where the run stands
  have a6:Qq L n=some (L.getD i Q_.zero):=by rw[t];exact gD w.2 (ll s)
  obtain⟨N,L0,a,B,q3⟩:=Q.MJ n _ a6;rw[N] at B q3;have O:a<=k:=by
   rcases Nat.lt_or_ge k a with g|g
   .exact QK (by rw[l];exact q3 k g) h2
   .exact g
  have a7:=Y.cl n _ L0 Z (by
   refine⟨a,?_,λj d=>?_⟩
   .rw[N,q a O];exact B
   .rw[N];exact M j A7)
  have a0:=Bd (W:=Kk Kq) (n:=n) (k-a) (σ:=Qq (nx++F)) (k0:=a) (by rw[q a O,B];exact Z) (λj d=>M j A7) (λa8 C r=>a7 a8 (by rw[q a O,B] at C;exact C) r);rw[show a+(k-a)=k by omega] at a0;have a9:Qq (nx.set i f++(F++G))=EL (Kk Kq) (Qq (nx++F)) n k:=by
   funext m
   unfold EL;rw[q k (Pw _),<-l,<-T,lZ,KL a2 z V,U];by_cases e:m=n
   .rw[QI e,QI e]
   .rw[QJ e,QJ e,lZ nx F];cases hx:Qq nx m with
    |some x=>rfl
    |none=>
     simp only;rw[lZ F G];cases C:Qq F m with
     |some x=>rfl
     |none=>
      simp only;have b0:Qq L m=none:=by rw[tH,<-h.nam];exact tH.1 hx
      have r:=nN (Kk Kq) E R m;rw[H,lZ,y,lZ,b0] at r;simp only[C] at r;exact r
  rw[a9];exact⟨_,A.trans a0⟩
 .rw[v] at K;simp only[Bool.or_eq_true,QP] at K;rcases K with (g|g)|g
  .obtain⟨j,d,a1⟩:=h.yes g;have:j≠i:=λe=>a1 (by rw[e];exact I)
   exact⟨j,d,by rw[c,QJ this];exact a1⟩
  .exact⟨i,s,by rw[c,QI rfl];exact λe=>g (by rw[e])⟩
  .exact⟨i,s,by rw[c,QI rfl];exact λe=>g (by rw[e])⟩
 .rw[v] at p;simp only[Bool.or_eq_false_iff,QN,Decidable.not_not] at p;rw[c];by_cases e:j=i
  .rw[QI e,e];exact⟨p.1.2,p.2⟩
  .rw[QJ e];exact h.no p.1.1 j A7 J
theorem mg.still(h:mg Kq L R nx L.length false)(e:ClT (Kk Kq) (Qq L))(C:R.length=L.length):nx++R.drop L.length=L/\AtEnd (aT (Kk Kq)) (Qq L):=by
 have f:∀j,j<L.length->nx.getD j Q_.zero=L.getD j Q_.zero/\¬bg (Kk Kq) (Qq L) (L.getD j Q_.zero):=λj a=>by
  obtain⟨k,b,i,l⟩:=h.nxt j a a;obtain⟨v,w⟩:=h.no rfl j a a;have m:=gD h.nd.2 (ll a);obtain⟨_,D,c,n,p⟩:=e.MJ _ _ m;have q:=e.web _ _ m;have E:c<=k:=by
   rcases Nat.lt_or_ge k c with g|g
   .exact QK (by rw[b];exact p k g) l
   .exact g
  rcases Nat.lt_or_ge c k with g|g
  .exfalso
   have d:=(i c g).1;have r:=gm q p d;rw[n] at d r;have x:(aK (Kk Kq) (Qq L) (L.getD j Q_.zero).name k).1.over=false:=by rw[<-b,w];exact d
   have w1:=gm q i x;rw[<-b,v] at w1;simp only at r;omega
  .obtain rfl:c=k:=A7;rw[n] at b;have s:nx.getD j Q_.zero=L.getD j Q_.zero:=b;exact⟨s,by rw[<-s];exact l⟩
 have y:nx=L:=by
  apply List.ext_getElem h.len;intro j z t;have:=(f j t).1;simpa[List.getD,z,t] using this
 refine⟨?_,λF ⟨G,A,B⟩=>?_⟩
 .rw[y,List.drop_of_length_le A7,List.append_nil]
 .obtain⟨j,a,rfl⟩:=PN (bA A).1;exact (f j a).2 (by simpa[List.getD,a] using B)
theorem mg.moved{b:Bool}(h:mg Kq L R nx i b)(q:WfX (Kk Kq) (Qq L))(c:b=true\/L.length<R.length):dQ (Kq.map (·.name)) (Qq (nx++R.drop L.length))<dQ (Kq.map (·.name)) (Qq L):=by
 obtain⟨r,f⟩:=h.led;have y:=Nj (Kq.map (·.name)) f q λz s=>qM s;rcases Nat.eq_zero_or_pos r with k|k
 .exfalso
  subst k;have l:Qq (nx++R.drop L.length)=Qq L:=f.zero rfl;rcases c with g|g
  .obtain⟨j,d,t⟩:=h.yes g;have m:j<nx.length:=by rw[h.len];exact d
   have a:=gD h.nd.1 (PK.2 (.inl (ll m)));have v:=gD h.nd.2 (ll d);have w:(nx.getD j Q_.zero).name= (L.getD j Q_.zero).name:=by
    have:=congrArg (λx=>x[j]?) h.nam;simpa[List.getD,m,d] using this
   rw[l,w,v] at a;exact t (by simpa using a.symm)
  .obtain⟨F,e,_⟩:=h.pre;have n:0<F.length:=by rw[e,Qi] at g;omega
   have c:F[0]∈nx++R.drop L.length:=by rw[e,List.drop_left];exact PK.2 (.inr (PL n))
   have a:=gD h.nd.1 c;rw[l] at a;have p:=h.dif;rw[e,QM] at p;exact (List.nodup_append.1 p).2.2 _ (PX.2 ⟨_,(bA a).1,(bA a).2⟩) _ (PX.2 ⟨F[0],PL n,rfl⟩) rfl
 .omega
structure nU (Kq:List Qz)(Kj:List QV)(L:List Q_)(ag:Bool)(gg:Nat):Prop where
 nd:(L.map (·.name)).Nodup
 good:dR Kq (Qq L)
 led:∃k,dx (aT (Kk Kq)) (doX (Kk Kq)) (Qq (b_ Kq Kj)) (Qq L) k
 fin:ag=false->AtEnd (aT (Kk Kq)) (Qq L)
 gg:gg=if ag=true then dQ (Kq.map (·.name)) (Qq L)+1 else 0
section
variable {Kq:List Qz}{Kj:List QV}{L R nx:List Q_}{ag b:Bool}{gg:Nat}
theorem nU.cl(h:nU Kq Kj L ag gg):ClT (Kk Kq) (Qq L):=by
 obtain⟨k,b⟩:=h.led;exact (ClT.start Kj).led b
theorem nU.wf(h:nU Kq Kj L ag gg):WfX (Kk Kq) (Qq L):=λn r d=>by
 obtain⟨f,e⟩:=h.good n r d;refine⟨f,h.cl.web n r d,e.lo,e.hi⟩
theorem nU.all(h:nU Kq Kj L ag gg):∀r∈L,r.Good Kq:=λr b=>(h.good r.name r (gD h.nd b)).2
theorem nU.len(h:nU Kq Kj L ag gg):L.length<=Kq.length:=by
 have c:∀n∈L.map (·.name),n∈Kq.map (·.name):=λn d=>by
  obtain⟨r,e,rfl⟩:=PX.1 d;exact qM (h.cl.web _ _ (gD h.nd e))
 have:=List.Nodup.length_le_of_subset h.nd c;simpa using this
theorem Lv{Kq:List Qz}(f:aX (Kk Kq))(h:dx (aT (Kk Kq)) (doX (Kk Kq)) σ τ k)(i:dR Kq σ):dR Kq τ :=
 h.keeps (P:=dR Kq) (λs n g b=>by
  obtain⟨r,b,j⟩:=b;intro m q a;rw[eD b] at a;by_cases e:m=n
  .rw[QI e] at a;cases a;exact⟨by rw[dz,(g n r b).1,e],fK f g (g n r b).2 j⟩
  .rw[QJ e] at a;cases d:s m with
   |some x=>rw[d] at a;cases a;exact g m _ d
   |none=>
    rw[d] at a;simp only at a
    split at a
    .next c=>cases a;exact⟨rfl,iD f c.2⟩
    .cases a) i
theorem Bt(Kq:List Qz)(Kj:List QV):Qq (dw (Kk Kq) [] Kj)=Qq (b_ Kq Kj):=by
 funext n
 rw[ik,nN]
 rfl
theorem nU.start{Kq:List Qz}(a:aX (Kk Kq))(Kj:List QV):nU Kq Kj (dw (Kk Kq) [] Kj) true (dQ (Kq.map (·.name)) (Qq (dw (Kk Kq) [] Kj))+1):=by
 obtain⟨G,_,_,b⟩:=lM (Kk Kq) Kj [] List.nodup_nil;refine⟨b,?_,⟨0,?_⟩,λh=>(by cases h),by rw[QI rfl]⟩
 .rw[Bt];exact (kr a Kj).env
 .rw[Bt];exact .here _
theorem nU.next(l:aX (Kk Kq))(h:nU Kq Kj L true gg)(a:mg Kq L R nx L.length b){c:Bool}(e:c= (b || decide (L.length<R.length))):nU Kq Kj (nx++R.drop L.length) c (if c=true then dQ (Kq.map (·.name)) (Qq (nx++R.drop L.length))+1 else 0)/\(if c=true then dQ (Kq.map (·.name)) (Qq (nx++R.drop L.length))+1 else 0)<gg:=by
 obtain⟨v,m⟩:=h.led;obtain⟨w,i⟩:=a.led;have n:=a.pre;refine⟨⟨a.nd.1,Lv l i h.good,⟨_,m.trans i⟩,λp=>?_,rfl⟩,?_⟩
 .rw[p] at e;have d:=e.symm;simp only[Bool.or_eq_false_iff,QN] at d;obtain⟨F,q,_⟩:=n;have r:R.length=L.length:=by
   have:L.length<=R.length:=by rw[q,Qi];omega
   omega
  have j:=a;rw[d.1] at j;obtain⟨s,t⟩:=j.still h.cl r;rw[s];exact t
 .have k:=h.gg;rw[QI rfl] at k;rw[k];by_cases f:c=true
  .rw[QI f];rw[f] at e;have:=a.moved h.wf (by
    have d:=e.symm;simp only[Bool.or_eq_true,QP] at d;exact d)
   omega
  .rw[QJ f];omega
end
theorem Fa{a:List Q_}(h:l.Perm a):dW l=dW a:=by
 unfold dW
 induction h with
 |nil=>rfl
 |cons x _ ih=>simp only[List.map_cons,List.sum_cons,ih]
 |swap x y l=>simp only[List.map_cons,List.sum_cons];omega
 |trans _ _ i1 i2=>rw[i1,i2]
theorem Bn(W:bf){a:List Q_}(h:l.Perm a):bJ W l=bJ W a:=by
 unfold bJ
 induction h with
 |nil=>rfl
 |cons x _ ih=>simp only[List.map_cons,List.sum_cons,ih]
 |swap x y l=>simp only[List.map_cons,List.sum_cons];omega
 |trans _ _ i1 i2=>rw[i1,i2]
theorem nU.sorted{Kj:List QV}{gg:Nat}(h:nU Kq Kj L false gg):Js Kq Kj (L.foldl dH [])/\Qq (L.foldl dH [])=Qq L/\dW (L.foldl dH [])=dW L/\bJ (Kk Kq) (L.foldl dH [])=bJ (Kk Kq) L:=by
 obtain⟨f,m⟩:=jN L [] List.Pairwise.nil (mP h.nd);have c:Qq (L.foldl dH [])=Qq L:=by
  funext n
  rw[m];cases Qq L n<;>rfl
 have k:∀r,r∈L.foldl dH []↔r∈L:=λr=>by
  constructor
  .intro d;have e:=bO f d;rw[c] at e;exact (bA e).1
  .intro d;have e:=gD h.nd d;rw[<-c] at e;exact (bA e).1
 have p:L.Nodup:=List.Pairwise.of_map (·.name) (λa b i j=>i (by rw[j])) h.nd;have q:(L.foldl dH []).Nodup:=List.Pairwise.imp (R:=λx y:Q_=>aQ x.name y.name) (S:=λx y=>x≠y) (λ{a b} i (j:a=b)=>fM i (congrArg Q_.name j)) f;have l:(L.foldl dH []).Perm L:=(List.perm_ext_iff_of_nodup q p).2 k;refine⟨⟨⟨f,λr d=>h.all r ((k r).1 d)⟩,?_,?_⟩,c,Fa l,Bn _ l⟩
 .rw[c];exact h.led
 .rw[c];exact h.fin rfl
section
variable {α:Type}{cells:α -> List QY}{sz:Nat}
def bN(cells:α->List QY)(f:Nat->α):Nat->List QY
 |0=>[]
 |n+1=>bN cells f n++cells (f n)
theorem ji(a:∀x,(cells x).length=sz)(f:Nat->α):∀n,(bN cells f n).length=n*sz
 |0=>by simp[bN]
 |n+1=>by simp[bN,ji a f n,a,Nat.succ_mul]
theorem iA{f g:Nat->α}:∀{n:Nat},(∀i,i<n->f i=g i)->bN cells f n=bN cells g n
 |0,_=>rfl
 |n+1,h=>by simp only[bN];rw[iA λi a=>h i A7,h n A7]
theorem qP(a:∀x,(cells x).length=sz)(f:Nat->α):∀{n i j:Nat},i<n->j<sz->(bN cells f n)[i*sz+j]? = (cells (f i))[j]?
 |n+1,i,j,hi,hj=>by
  have b:=ji a f n;simp only[bN];by_cases e:i<n
  .have:i*sz+j<n*sz:=by
    have:=Nat.mul_le_mul_right sz (show i+1<=n by omega);rw[Nat.succ_mul] at this;omega
   rw[Qx A7];exact qP a f e hj
  .obtain rfl:i=n:=A7;rw[Qy A7,b]
   congr 1
   omega
theorem Fj(a:∀x,(cells x).length=sz)(f:Nat->α)(n:Nat):(bN cells f (n+1)).take (n*sz)=bN cells f n:=by
 simp only[bN];rw[<-ji a f n,List.take_left]
def kI(xs:List QY)(o:Nat)(cs:List QY):List QY:=xs.take o++cs++xs.drop (o+cs.length)
theorem Dg(xs:List QY){o:Nat}(a:o<xs.length)(c:QY)(cs:List QY):kI (xs.set o c) (o+1) cs=kI xs o (c :: cs):=by
 unfold kI;rw[List.drop_set,QI A7,PH (by simpa using a)];rw[List.take_set];have b:(xs.take o).set o c=xs.take o:=List.set_eq_of_length_le F3;rw[b,List.getElem_set_self];simp only[Qn,List.append_assoc,List.cons_append,List.nil_append];rw[show o+1+cs.length=o+(cs.length+1) by omega]
theorem Df{xs a:List QY}{o:Nat}{cs:List QY}(h:o+cs.length<=xs.length):kI (xs++a) o cs=kI xs o cs++a:=by
 unfold kI;rw[List.take_append_of_le_length A7,List.drop_append_of_le_length h];simp
theorem Cq{xs a:List QY}{cs:List QY}(h:cs.length=a.length):kI (xs++a) xs.length cs=xs++cs:=by
 unfold kI;rw[List.take_left,List.drop_eq_nil_of_le (by rw[Qi];omega)];simp
theorem uu(a:∀x,(cells x).length=sz)(f:Nat->α)(y:α):∀{n i:Nat},i<n->kI (bN cells f n) (i*sz) (cells y)=bN cells (λk=>if k=i then y else f k) n
 |n+1,i,hi=>by
  have c:=ji a f n;simp only[bN];by_cases e:i<n
  .have d:=Nat.mul_le_mul_right sz (show i+1<=n by omega);rw[Nat.succ_mul] at d;rw[Df (by rw[a,c];exact d),uu a f y e,QJ A7]
  .obtain rfl:i=n:=A7;rw[<-c,Cq (by rw[a,a]),QI rfl];rw[iA (f:=λk=>if k=i then y else f k) (g:=f) λk h=>by rw[QJ A7]]
end
variable {cap:Nat}
theorem yJ{B sz g n:Nat}{e:TypeId}:∀(cs:List QY)(o:Nat){w:QX}{xs:List QY},w.ownsRow B e sz (.c g n cap) n xs->o+cs.length<=xs.length->(w.setCells g o cs).ownsRow B e sz (.c g n cap) n (kI xs o cs)
 |[],o,w,xs,h,_=>by
  have:kI xs o []=xs:=by unfold kI;simp
  rw[this];exact h
 |c :: cs,o,w,xs,h,hl=>by
  simp only[Qn] at hl;have:=yJ cs (o+1) (h.stored o c).1 H5;rw[Dg xs A7] at this;exact this
theorem But.setCells{S:Nat->Prop}{w:QX}{g:Nat}(a:S g):∀(cs:List QY)(o:Nat){w':QX},But S w w'->But S w (w'.setCells g o cs)
 |[],_,_,h=>h
 |_ :: cs,o,_,h=>But.setCells a cs (o+1) (h.set (p:=⟨g,o,none⟩) a _)
structure aO {α:Type}(w:QX)(b o B:Nat)(e:TypeId)(sz:Nat)(cells:α->List QY)(fn:QY)(f:Nat->α)(n:Nat)(a:QW)(cap:Nat):Prop where
 c0:w.cell? ⟨b,o,none⟩=some (.slice a n cap)
 c1:w.cell? ⟨b,o+1,none⟩=some fn
 row:w.ownsRow B e sz (.slice a n cap) n (bN cells f n)
 lt:b<w.heap.size
 blk:∃t m,aH w b t m/\o+1<m
 ne:(Value.slice a n cap).ownBlock≠some b
 one:∀x,∀u∈cells x,u.oneCell'=true
 sz:∀x,(cells x).length=sz
section
variable {α:Type}{w w':QX}{b o B:Nat}{e:TypeId}{sz:Nat}{cells:α -> List QY}{fn:QY}{f:Nat -> α}{n:Nat}{a:QW}{cap g:Nat}
theorem aO.pos(h:aO w b o B e sz cells fn f n a cap)(l:0<n):∃g,a=some ⟨g,0,none⟩/\g<w.heap.size/\b≠g/\n<=cap:=by
 rcases h.row.2 with⟨_,c⟩|⟨g,m,p,c,_,d,i,_⟩
 .omega
 .injection c with j q k;subst j k;exact⟨g,rfl,aP d,λx=>h.ne (by rw[x];rfl),i⟩
theorem aO.at(h:aO w b o B e sz cells fn f n (some ⟨g,0,none⟩) cap){i j:Nat}(a:i<n)(c:j<sz):w.cell? ⟨g,i*sz+j,none⟩= (cells (f i))[j]? :=by
 have d:i*sz+j<n*sz:=by
  have:=Nat.mul_le_mul_right sz (show i+1<=n by omega);rw[Nat.succ_mul] at this;omega
 rw[h.row.cellAt _ d];exact qP h.sz f a c
theorem aO.but{S:Nat->Prop}(h:aO w b o B e sz cells fn f n a cap)(k:But S w w')(c:¬S b)(d:∀x,(Value.slice a n cap).ownBlock=some x->¬S x):aO w' b o B e sz cells fn f n a cap:=
 ⟨(k.cell h.lt c).trans h.c0,(k.cell h.lt c).trans h.c1,k.owns h.row d,Px h.lt k.size,let ⟨t,m,hr,hm⟩:=h.blk;⟨t,m,k.row hr c,hm⟩,h.ne,h.one,h.sz⟩
theorem aO.set(h:aO w b o B e sz cells fn f n (some ⟨g,0,none⟩) cap){i:Nat}(l:i<n)(y:α):aO (w.setCells g (i*sz) (cells y)) b o B e sz cells fn (λk=>if k=i then y else f k) n (some ⟨g,0,none⟩) cap:=by
 have d:b≠g:=λx=>h.ne (by rw[x];rfl)
 have p:=ji h.sz f n;have a:=But.setCells (S:=λx=>x=g) (g:=g) (w:=w) rfl (cells y) (i*sz) (But.ak (K_.refl w));have j:=Nat.mul_le_mul_right sz (show i+1<=n by omega);rw[Nat.succ_mul] at j;have c:=yJ (cells y) (i*sz) h.row (by rw[h.sz,p];exact j);rw[uu h.sz f y l] at c;exact⟨(a.cell h.lt d).trans h.c0,(a.cell h.lt d).trans h.c1,c,Px h.lt a.size,let ⟨t,m,c,hm⟩:=h.blk;⟨t,m,a.row c d,hm⟩,h.ne,h.one,h.sz⟩
theorem Oh{f:Nat->α}(i j:Nat):(λk=>if k=j then f i else (λk=>if k=i then f j else f k) k)=swp f j i:=by
 funext k
 unfold swp;by_cases a:k=j
 .simp[a]
 .simp[a]
theorem LZ(f:Nat->α)(i j:Nat):swp f i j=swp f j i:=by
 funext k
 unfold swp;by_cases a:k=i<;>by_cases b:k=j
 .rw[QI a,QI b,<-a,<-b]
 .rw[QI a,QJ b,QI a]
 .rw[QJ a,QI b,QI b]
 .rw[QJ a,QJ b,QJ b,QJ a]
theorem aO.swap(h:aO w b o B e sz cells fn f n (some ⟨g,0,none⟩) cap){i j:Nat}(c:i<n)(d:j<n):aO ((w.setCells g (i*sz) (cells (f j))).setCells g (j*sz) (cells (f i))) b o B e sz cells fn (swp f i j) n (some ⟨g,0,none⟩) cap:=by
 have:=(h.set c (f j)).set d (f i);rw[Oh i j,LZ] at this;exact this
theorem aO.kept(h:aO w b o B e sz cells fn f n a cap)(k:K_ w w'):aO w' b o B e sz cells fn f n a cap:=h.but (S:=λ_=>False) (.ak k) id λ_ _=>id
theorem aO.told{d:QW}{c h:Nat}{q:Nat->α}(j:aO w b o B e sz cells fn f n a cap)(k:But (λx=>(Value.slice a n cap).ownBlock=some x) w w')(z:w'.ownsRow B e sz (.slice d c h) c (bN cells q c))(r:(Value.slice d c h).ownBlock≠some b):
  aO (w'.setCell ⟨b,o,none⟩ (.slice d c h)) b o B e sz cells fn q c d h/\But (λx=>x=b\/(Value.slice a n cap).ownBlock=some x) w (w'.setCell ⟨b,o,none⟩ (.slice d c h))/\(∀i,i≠o->(w'.setCell ⟨b,o,none⟩ (.slice d c h)).cell? ⟨b,i,none⟩=w.cell? ⟨b,i,none⟩)/\∀t m,aH w b t m->aH (w'.setCell ⟨b,o,none⟩ (.slice d c h)) b t m:=by
 obtain⟨t,m,l,A⟩:=j.blk;have s:=k.row l j.ne;have C:∀i,w'.cell? ⟨b,i,none⟩=w.cell? ⟨b,i,none⟩:=λi=>k.cell j.lt j.ne
 have v:∀i,i≠o->(w'.setCell ⟨b,o,none⟩ (.slice d c h)).cell? ⟨b,i,none⟩=w.cell? ⟨b,i,none⟩:=λi F=>by
  rw[PU _ _ _ _ (by intro e;injection e with _ G _;omega)];exact C i
 have y:But (λx=>x=b\/(Value.slice a n cap).ownBlock=some x) w (w'.setCell ⟨b,o,none⟩ (.slice d c h)):=(k.mono λ_ _ j=>.inr j).set (p:=⟨b,o,none⟩) (.inl rfl) _;have D:But (λx=>x=b) w' (w'.setCell ⟨b,o,none⟩ (.slice d c h)):=(But.ak (K_.refl w')).set (S:=λx=>x=b) (p:=⟨b,o,none⟩) rfl _;exact⟨⟨PD w' b o [.slice d c h] (s.row.there (o:=o) (m:=1) A7) 0 _ rfl,(v (o+1) A7).trans j.c1,D.owns z (λx E e=>r (by rw[E,e])),Px j.lt y.size,⟨t,m,s.set _,A⟩,r,j.one,j.sz⟩,y,v,λ_ _ l=>(k.row l j.ne).set _⟩
end
theorem uE{α:Type}{w:QX}{B sz g n:Nat}{e:TypeId}{cells:α->List QY}{f:Nat->α}(c:∀x,(cells x).length=sz)(h:w.ownsRow B e sz (.c g (n+1) cap) (n+1) (bN cells f (n+1))):w.ownsRow B e sz (.c g n cap) n (bN cells f n):=by
 refine⟨ji c f n,?_⟩;rcases h.2 with⟨b,_⟩|⟨q,r,d,b,i,j,s,k,l,m⟩
 .cases b
 .injection b with a t p;injection a with a;injection a with a;subst a p;refine .inr ⟨g,cap,d,rfl,i,j,A7,k,l,?_⟩;rw[<-Fj c f n,<-m,List.take_take,Nat.min_eq_left (Nat.mul_le_mul_right sz A7)]
structure ToH (w w':QX)(b o:Nat)(a:QW)(n cap:Nat)(a':QW)(n' cap':Nat):Prop where
 but:But (λx=>x=b\/(Value.slice a n cap).ownBlock=some x) w w'
 oth:∀i,i≠o->w'.cell? ⟨b,i,none⟩=w.cell? ⟨b,i,none⟩
 row:∀t m,aH w b t m->aH w' b t m
 new:∀x,(Value.slice a' n' cap').ownBlock=some x->(Value.slice a n cap).ownBlock=some x\/w.heap.size<=x
theorem ToH.next{w w1 w2:QX}{b o n c d:Nat}{a e:QW}(h:ToH w w1 b o a n cap e c d)(k:But (λx=>(Value.slice e c d).ownBlock=some x) w1 w2)(m:b<w.heap.size)(i:(Value.slice e c d).ownBlock≠some b):ToH w w2 b o a n cap e c d:=
 ⟨⟨k.os.trans h.but.os,k.tape.trans h.but.tape,k.output.trans h.but.output,Pz h.but.size k.size,λx j l=>(k.block x (Px j h.but.size) (λf=>by
   rcases h.new x f with f|f
   .exact l (.inr f)
   .omega)).trans (h.but.block x j l)⟩,λp q=>(k.cell (Px m h.but.size) i).trans (h.oth p q),λt r s=>k.row (h.row t r s) i,h.new⟩
def oK{α:Type}(ah:α->α->Bool)(f:Nat->α)(n k q p:Nat):Prop:=(q=2*k+1/\p=k)\/(q=2*k+2/\p=g_ ah f n k)\/(q=2*k+3/\p=dU ah f n k)
def nA{α:Type}(fid:Nat)(val:α->QY)(ah:α->α->Bool)(Ok:α->QX->Prop):Prop:=
 ∀x y u,Ok x u->Ok y u->Calls prog fid #[val x,val y] u λe u'=>e=.returned (.bool (ah x y))/\K_ u u'
section
variable {Kq:List Qz}{Gl σ0 σs σ:Env}{ns:List QV}{i:Nat}{b:Bool}
end
def pq(V:Nat->Nat)(f n i:Nat):QY:=.b ((if i<60 then V i else if i=60 then f else n:Nat):Int)
structure nQ (w:QX)(rb:Nat)(Q:List Nat):Prop where
 ex:∃V f,f<60/\Q.length<=60/\w.rowIs rb 243 62 (pq V f Q.length)/\∀i,i<Q.length->V ((f+i) % 60)=Q.getD i 0
theorem nQ.block{w w':QX}{a:Nat}{Q:List Nat}(h:nQ w a Q)(k:w'.heap[a]? =w.heap[a]?):nQ w' a Q:=by
 obtain⟨V,f,b,d,⟨c,e,i⟩,j⟩:=h;exact⟨V,f,b,d,⟨c,k.trans e,i⟩,j⟩
theorem qX{w:QX}{b n:Nat}{t:TypeId}{F G:Nat->QY}(h:w.rowIs b t n F)(i:Nat)(v:QY)(c:∀p,p<n->G p=if p=i then v else F p):(w.setCell ⟨b,i,none⟩ v).rowIs b t n G:=by
 obtain⟨d,e,f,j⟩:=World.rowIs.set h i v;refine⟨d,e,f,λp a=>?_⟩;rw[j p a,c p a]
theorem nI{w w':QX}{b n:Nat}{t:TypeId}{F:Nat->QY}(h:w.rowIs b t n F)(k:K_ w w'):w'.rowIs b t n F:=by
 obtain⟨e,c,f⟩:=h;exact⟨e,(k.block b (aP c)).trans c,f⟩
theorem Ia(w:QX)(a:Nat)(Q:List Nat)(p:Nat)(v:nQ w a Q)(E:Q.length<60):
  Calls prog 172 #[.h a,.b (p:Int)] w λe w'=>e=.returned (.tuple #[])/\nQ w' a (Q++[p])/\But (λb=>b=a) w w':=by
 obtain⟨V,f,F,hn,c,x⟩:=v.ex;obtain⟨n,q⟩:=aj Q.length;rw[<-q] at c E;obtain⟨k,y⟩:=aj ((f+n) % 60);have H:k<60:=A7;have I:w.cell? ⟨a,60,none⟩=some (.b (f:Int)):=by rw[c.cell A7];rfl
 have z:w.cell? ⟨a,61,none⟩=some (.b (n:Int)):=by rw[c.cell A7];rfl
 have J:((f:Int)+(n:Int)).tmod 60= (k:Int):=by rw[Int.tmod_eq_emod_of_nonneg A7];omega
 have r:=λi=>c.frozen i
 have K:=r k;have A:=r 61;have a0:(k:Int)<60:=A7;have L:=c.cell (show k<62 by omega);have s:=qX c k (.b (p:Int)) (G:=pq (λi=>if i=k then p else V i) f n) (λi d=>by
  unfold pq;by_cases e:i=k
  .subst e;simp[H]
  .simp[e])
 obtain⟨w1,h⟩:=aj (w.setCell ⟨a,k,none⟩ (.b (p:Int)));rw[<-h] at s;have B:But (λb=>b=a) w w1:=by rw[h];exact But.set (S:=λb=>b=a) (But.ak (K_.refl w)) (p:=⟨a,k,none⟩) rfl _
 have⟨M,N⟩:=aJ s B;have O:Hid (∀i,i<Q.length->V ((f+i) % 60)=Q.getD i 0):=x;have P:Hid (k= (f+n) % 60):=y;have t:Hid (n=Q.length):=q;clear c r s B x y q v;go_enter func172,ntmps172
 go_wp2
 go_region
 rw[<-h];have j:K_ w1 w1.drew:=a_ w1;generalize R:w1.drew=T at j⊢;clear h R I z K A L J;have l:=nI M.o j;have z:T.cell? ⟨a,61,none⟩=some (.b (n:Int)):=by rw[l.cell A7];rfl
 have A:=l.frozen 61;have U:=Kz l;have W:=Kz (N.o.trans (But.ak j));clear l j;go_wp2
 go_end0
 refine⟨rfl,⟨λi=>if i=k then p else V i,f,F,by rw[Qi];simp;have:=t.o;omega,?_,λi d=>?_⟩,But.set (S:=λb=>b=a) W.o (p:=⟨a,61,none⟩) rfl _⟩
 .rw[Qi];refine qX U.o 61 _ λi d=>?_;unfold pq;have m:=t.o;by_cases e:i=61
  .subst e;simp[m]
  .have X:¬i<60->i=60:=A7;by_cases C:i<60
   .simp[C,e]
   .simp[X C]
 .rw[Qi] at d;have m:=t.o;have Y:=P.o;by_cases e:i=Q.length
  .subst e;simp only[<-m,<-Y,if_true,List.getD];rw[m];simp
  .have D:i<Q.length:=by simp at d;omega
   have Z:(f+i) % 60≠k:=A7;simp only[QJ Z,O.o i D,List.getD,Qx D]
theorem Mh(w:QX)(a:Nat)(Q:List Nat)(p:Nat)(v:nQ w a (p :: Q)):
  Calls prog 173 #[.h a] w λe w'=>e=.returned (.b (p:Int))/\nQ w' a Q/\But (λb=>b=a) w w':=by
 obtain⟨V,f,x,I,c,q⟩:=v.ex;obtain⟨n,j⟩:=aj Q.length;have y:V f=p:=by have:=q 0 A9;simpa[Nat.mod_eq_of_lt x] using this
 rw[Qn,<-j] at c;rw[Qn,<-j] at I;have W:(f:Int)<60:=A7;have z:Hid (∀u,w.rowIs a 243 62 (pq V f (n+1))->K_ w u->u.cell? ⟨a,60,none⟩=some (.b (f:Int))/\u.cell? ⟨a,f,none⟩=some (.b (p:Int))):=λu c k=>by
  have A:=nI c k;refine⟨by rw[A.cell A7];rfl,?_⟩;rw[A.cell A7];unfold pq;rw[QI x,y]
 obtain⟨r,B⟩:=z.o w c (K_.refl w);have C:=Kz c;have J:Hid (∀i,i<Q.length->V ((f+(i+1)) % 60)=Q.getD i 0):=λi l=>by have:=q (i+1) D7;simpa using this
 have D:Hid (n=Q.length):=j;clear c q j v y z;go_enter func173,ntmps173
 go_wp2
 go_region
 have s:K_ w w.drew:=a_ w;generalize K:w.drew=w1 at s⊢;clear K r B;have m:=nI C.o s;have r:w1.cell? ⟨a,60,none⟩=some (.b (f:Int)):=by rw[m.cell A7];rfl
 obtain⟨k,E⟩:=aj ((f+1) % 60);have L:((f:Int)+1).tmod 60= (k:Int):=by rw[Int.tmod_eq_emod_of_nonneg A7];omega
 have M:=m.frozen 60;have⟨N,F⟩:=aJ m E;clear m C E;go_upto_region 3 with fail
 have d:=qX N.o 60 (.b (k:Int)) (G:=pq V k (n+1)) (λi l=>by
  unfold pq;by_cases e:i=60
  .subst e;simp
  .by_cases h:i<60
   .simp[h,e]
   .simp[h,e])
 have t:But (λb=>b=a) w (w1.setCell ⟨a,60,none⟩ (.b (k:Int))):=But.set (S:=λb=>b=a) (But.ak s) (p:=⟨a,60,none⟩) rfl _;generalize O:w1.setCell ⟨a,60,none⟩ (.b (k:Int))=P at d t⊢;clear O r M L;have B:P.cell? ⟨a,61,none⟩=some (.b ((n+1:Nat):Int)):=by rw[d.cell A7];rfl
 have X:=d.frozen 61;have Y:((n+1:Nat):Int)-1= (n:Int):=A7;have H:=qX d 61 (.b (n:Int)) (G:=pq V k n) (λi l=>by
  unfold pq;by_cases e:i=61
  .subst e;simp
  .have R:¬i<60->i=60:=A7;by_cases h:i<60
   .simp[h,e]
   .simp[R h])
 have T:=Kz H;have U:=Kz (But.set (S:=λb=>b=a) t (p:=⟨a,61,none⟩) rfl (.b (n:Int)));clear d H t;go_wp2
 go_ret
 refine⟨rfl,⟨V,k,?_,?_,?_,λi l=>?_⟩,U.o⟩
 .rw[F.o];omega
 .have:=D.o;omega
 .rw[<-D.o];exact T.o
 .rw[<-J.o i l];have:=F.o
  congr 1
  omega
theorem DN(w:QX)(x y:QV):Calls prog 154 #[.string x,.string y] w λe w'=>e=.returned (.bool (Op.bytesLess x.toList y.toList))/\w'=w:=by
 cases b:Op.bytesLess x.toList y.toList
 all_goals
  go_enter func154,ntmps154
  go_wp2
  go_ret
  exact⟨rfl,rfl⟩
theorem Ap(w:QX)(x:QV):Calls prog 155 #[.string x] w λe w'=>e=.returned (.bool false)/\w'=w:=by
 go_enter func155,ntmps155
 go_wp2
 go_ret
 exact⟨rfl,rfl⟩
def rV(l:List QV)(s:QV)(e:Ending):Prop:=∃(k:Nat)(b:Bool),e=.returned (.tuple #[.b (k:Int),.bool b])/\(b=true->k<l.length/\l.getD k ByteArray.empty=s)/\(b=false->s∉l)
theorem rV.mk{l:List QV}{s:QV}{e:Ending}(k:Nat)(b:Bool)(h:e=.returned (.tuple #[.b (k:Int),.bool b]))(c:b=true->k<l.length/\l.getD k ByteArray.empty=s)(h2:b=false->s∉l):rV l s e:=⟨k,b,h,c,h2⟩
theorem DR(w:QX)(a:QW)(cap:Nat)(l:List QV)(s:QV)(U:l.length<=1048576)(D:rC l)(E:Strs w a l):
  Calls prog 133 #[.slice a l.length cap,.string s] w λe w'=>rV l s e/\w'=w:=by
 have v:Hid (∀p q,p<q->q<l.length->aQ (l.getD p ByteArray.empty) (l.getD q ByteArray.empty)):=λp q n c=>by
  have:=PM.1 D p q A7 c n;simpa[List.getD,c,show p<l.length by omega] using this
 clear D;go_enter func133,ntmps133
 go_wp2
 go_loopw [7,8] (λx y wr=>∃i j:Nat,x=.b i/\y=.b j/\i<=j/\j<=l.length/\Hid (∀t,t<i->aQ (l.getD t ByteArray.empty) s)/\Hid (∀t,j<=t->t<l.length->¬aQ (l.getD t ByteArray.empty) s)/\wr=w) λx y _=>(intOf y).toNat-(intOf x).toNat
 case atStart=>exact⟨0,l.length,rfl,rfl,Py _,Pw _,Kz λt F=>aS F,Kz λt n c=>A7,rfl⟩
 case round=>
  obtain⟨i,j,rfl,rfl,V,Q,G,H,rfl⟩:=hrel;by_cases W:(i:Int)<j
  .obtain⟨h,I⟩:∃h:Nat,h= (i+j) / 2:=⟨_,rfl⟩;have J:h<l.length:=A7;have R:i<=h:=A7;have X:h<j:=A7;obtain⟨b,o,rfl,S,r⟩:=E h J;obtain⟨d,f⟩:=aj (l.getD h ByteArray.empty);rw[<-f] at r;have k:=Kz f;clear f;have Y:((i:Int)+(j:Int)) / 2= (h:Int):=A7;have Z:=Kz I;clear I;go_wp2_with fail
   refine (DN _ d s).mono ?_;rintro e w1 ⟨rfl,rfl⟩;clear r;cases K:Op.bytesLess d.toList s.toList
   .go_wp2
    go_roundw
    case rel=>
     refine⟨i,h,rfl,C8,R,A7,G,Kz λt n c L=>?_,trivial⟩;have M:¬aQ (l.getD h ByteArray.empty) s:=λg=>by rw[<-k.o] at g;unfold aQ at g;rw[K] at g;cases g
     rcases Nat.lt_or_ge h t with e|e
     .exact M (iG (v.o h t e c) L)
     .have:t=h:=A7;subst this;exact M L
    case measure=>simp[intOf];omega
   .go_wp2
    go_roundw
    case rel=>
     refine⟨h+1,j,C8,rfl,A7,Q,Kz λt F=>?_,H,trivial⟩;have N:aQ (l.getD h ByteArray.empty) s:=by rw[<-k.o];exact K
     rcases Nat.lt_or_ge t h with e|e
     .exact iG (v.o t h e J) N
     .have:t=h:=A7;subst this;exact N
    case measure=>simp[intOf];omega
  .have T:i=j:=A7;subst T;have O:Hid (s∈l->i<l.length/\l.getD i ByteArray.empty=s):=λm=>by
    obtain⟨q,z,e⟩:=PN m;have A:l.getD q ByteArray.empty=s:=by simpa[List.getD,z] using e
    have n:¬q<i:=λg=>by have:=G.o q g;rw[A] at this;exact aZ _ this
    have c:q=i:=by
     rcases Nat.lt_or_ge i q with g|g
     .have P:=v.o i q g z;rw[A] at P;exact QK P (H.o i (Pw _) A7)
     .omega
    subst c;exact⟨z,A⟩
   by_cases B:i<l.length
   .obtain⟨b,o,rfl,S,r⟩:=E i B;obtain⟨d,f⟩:=aj (l.getD i ByteArray.empty);rw[<-f] at r;have k:=Kz f;clear f;have a0:(i:Int)<(l.length:Int):=A7;cases C:(d.toList == s.toList)
    .go_wp2_with (first|(go_at_call 155;refine (Ap _ _).mono ?_;rintro e w1 ⟨rfl,rfl⟩))
     go_ret2
     exact⟨rV.mk i false rfl (λh=>by cases h) (λ_ m=>by
      have c:=(O.o m).2;rw[<-k.o] at c;rw[c] at C;simp at C),rfl⟩
    .go_wp2
     go_ret2
     exact⟨rV.mk i true rfl (λ_=>⟨B,by rw[<-k.o];exact iV C⟩) (λh=>by cases h),rfl⟩
   .go_wp2
    go_ret2
    exact⟨rV.mk i false rfl (λh=>by cases h) λ_ m=>B (O.o m).1,rfl⟩
structure gU (E:QV->QV->Prop)(nm:List QV)(k:Nat)(S:List QV)(j M:Nat)(need back:Nat->List Nat):Prop where
 fwd:∀p q,q∈need p↔(p<k/\dP E nm p q)\/(p=k/\∃hq:q<nm.length,nm[q]∈S.take j)
 bwd:∀p q,p∈back q↔(p<k/\dP E nm p q)\/(p=k/\∃hq:q<nm.length,nm[q]∈S.take j)
 asc:∀p,(need p).Pairwise (· <= ·)
 len:∀p,(need p).length<=M/\(back p).length<=M
structure Ew (E:QV->QV->Prop)(nm:List QV)(M:Nat)(need back:Nat->List Nat):Prop where
 fwd:∀p q,q∈need p↔dP E nm p q
 bwd:∀p q,p∈back q↔dP E nm p q
 asc:∀p,(need p).Pairwise (· <= ·)
 len:∀p,(need p).length<=M/\(back p).length<=M
section
variable {E:QV -> QV -> Prop}{nm S:List QV}{k j M:Nat}{need back:Nat -> List Nat}
theorem gU.start(E:QV->QV->Prop)(nm S:List QV):gU E nm 0 S 0 0 (λ_=>[]) (λ_=>[]):=
 ⟨λp q=>A9,λp q=>A9,λp=>List.Pairwise.nil,λp=>⟨Pw _,Pw _⟩⟩
theorem gU.enter(h:gU E nm k S 0 M need back)(b:List QV):gU E nm k b 0 M need back:=
 ⟨λp q=>by rw[h.fwd];simp,λp q=>by rw[h.bwd];simp,h.asc,h.len⟩
theorem gU.leave(h:gU E nm k S j M need back)(f:k<nm.length)(i:S.length<=j)(c:∀y,y∈S↔E nm[k] y):gU E nm (k+1) [] 0 M need back:=by
 have d:∀p q,(p<k/\dP E nm p q)\/(p=k/\∃b:q<nm.length,nm[q]∈S.take j)↔(p<k+1/\dP E nm p q)\/(p=k+1/\∃b:q<nm.length,nm[q]∈([]:List QV).take 0):=λp q=>by
  rw[Qd i];constructor
  .rintro (⟨l,a⟩|⟨rfl,b,a⟩)
   .exact .inl ⟨A7,a⟩
   .exact .inl ⟨A7,f,b,(c _).1 a⟩
  .rintro (⟨l,m,b,a⟩|⟨_,_,a⟩)
   .by_cases e:p=k
    .subst e;exact .inr ⟨rfl,b,(c _).2 a⟩
    .exact .inl ⟨A7,m,b,a⟩
   .simp at a
 exact⟨λp q=>(h.fwd p q).trans (d p q),λp q=>(h.bwd p q).trans (d p q),h.asc,h.len⟩
theorem gU.skip(h:gU E nm k S j M need back)(e:j<S.length)(f:S[j]∉nm):gU E nm k S (j+1) M need back:=by
 have d:∀q:Nat,(∃a:q<nm.length,nm[q]∈S.take j)↔∃a:q<nm.length,nm[q]∈S.take (j+1):=λq=>by
  rw[PH e];constructor
  .rintro⟨a,c⟩;exact⟨a,PK.2 (.inl c)⟩
  .rintro⟨a,c⟩;rcases PK.1 c with b|b
   .exact⟨a,b⟩
   .rw[PI] at b;exact QK (by rw[<-b];exact PL a) f
 exact⟨λp q=>by rw[h.fwd,d],λp q=>by rw[h.bwd,d],h.asc,h.len⟩
theorem gU.put(m:jy E nm)(h:gU E nm k S j M need back)(n:j<S.length)(v:S.Pairwise λa b=>¬aQ b a){q:Nat}(i:q<nm.length)(l:nm[q]=S[j])(C:k<nm.length)(D:∀y∈S,E nm[k] y):
  gU E nm k S (j+1) (M+1) (λp=>if p=k then need k++[q] else need p) (λp=>if p=q then back q++[k] else back p):=by
 have s:∀r:Nat,(∃f:r<nm.length,nm[r]∈S.take (j+1))↔(∃f:r<nm.length,nm[r]∈S.take j)\/r=q:=λr=>by
  rw[PH n];constructor
  .rintro⟨f,d⟩;rcases PK.1 d with c|c
   .exact .inl ⟨f,c⟩
   .rw[PI,<-l] at c;exact .inr (m.inj f i c)
  .rintro (⟨f,d⟩|rfl)
   .exact⟨f,PK.2 (.inl d)⟩
   .exact⟨i,PK.2 (.inr (by rw[l];simp))⟩
 refine⟨λp r=>?_,λp r=>?_,λp=>?_,λp=>⟨?_,?_⟩⟩
 .rw[s];by_cases e:p=k
  .subst e;simp only[if_true,PK,PI,h.fwd];constructor
   .rintro ((⟨d,c⟩|⟨_,c⟩)|c)
    .exact .inl ⟨d,c⟩
    .exact .inr ⟨trivial,.inl c⟩
    .exact .inr ⟨trivial,.inr c⟩
   .rintro (⟨d,c⟩|⟨_,c|c⟩)
    .exact .inl (.inl ⟨d,c⟩)
    .exact .inl (.inr ⟨trivial,c⟩)
    .exact .inr c
  .show (r∈if p=k then need k++[q] else need p)↔_;rw[QJ e,h.fwd];simp only[e,false_and,or_false]
 .rw[s];by_cases e:r=q
  .subst e;simp only[if_true,PK,PI,h.bwd];constructor
   .rintro ((d|⟨d,c⟩)|d)
    .exact .inl d
    .exact .inr ⟨d,.inl c⟩
    .exact .inr ⟨d,.inr trivial⟩
   .rintro (d|⟨d,c|_⟩)
    .exact .inl (.inl d)
    .exact .inl (.inr ⟨d,c⟩)
    .exact .inr d
  .show (p∈if r=q then back q++[k] else back r)↔_;rw[QJ e,h.bwd];simp only[e,or_false]
 .by_cases e:p=k
  .subst e;simp only[if_true];rw[P_];refine⟨h.asc p,A9,λa w b t=>?_⟩;rw[PI] at t;subst t;rcases (h.fwd p a).1 w with⟨d,_⟩|⟨_,x,c⟩
   .omega
   .obtain⟨z,F,A⟩:=List.mem_take_iff_getElem.1 c;have B:=PM.1 v z j A7 n A7;rw[A,<-l,m.less i x] at B;omega
  .simp only[QJ e];exact h.asc p
 .by_cases e:p=k
  .simp only[e,if_true,Qi,QQ];have:=(h.len k).1;omega
  .simp only[QJ e];have:=(h.len p).1;omega
 .by_cases e:p=q
  .simp only[e,if_true,Qi,QQ];have:=(h.len q).2;omega
  .simp only[QJ e];have:=(h.len p).2;omega
theorem gU.whole(h:gU E nm nm.length [] 0 M need back):Ew E nm M need back:=by
 have e:∀p q,(p<nm.length/\dP E nm p q)\/(p=nm.length/\∃hq:q<nm.length,nm[q]∈([]:List QV).take 0)↔dP E nm p q:=λp q=>by
  constructor
  .rintro (⟨_,c⟩|⟨_,_,c⟩)
   .exact c
   .simp at c
  .intro c;exact .inl ⟨c.1,c⟩
 exact⟨λp q=>(h.fwd p q).trans (e p q),λp q=>(h.bwd p q).trans (e p q),h.asc,h.len⟩
end
section
variable {R:Nat -> Nat -> Prop}{t:Nat}
structure rM (R:Nat->Nat->Prop)(t n:Nat)(l:List Nat)(a q:Nat):Prop where
 len:l.length+q=n+1
 pos:1<=q
 more:2<=q->∃y,R a y/\Far R t (q-1) y
 last:∃l0,l=l0++[a]
 rest:∀r,mr R t q a r->mr R t n t (l.dropLast++r)
theorem rM.start{n:Nat}(h:mi R t n):rM R t n [t] t n:=by
 refine⟨D7,h.1,λe=>?_,⟨[],rfl⟩,λr b=>b⟩;obtain⟨m,rfl⟩:∃m,n=m+1:=⟨n-1,A7⟩;obtain⟨y,a,c⟩:=h.2.1.first
 refine⟨y,a,c,λi f d=>h.2.2 (i+1) A7 A7 (.step a d)⟩
theorem rM.next{n q a x:Nat}{l:List Nat}(h:rM R t n l a (q+1))(e:1<=q)(b:Cn (λy=>R a y/\Far R t q y) x):rM R t n (l++[x]) x q:=by
 obtain⟨i,c⟩:=h.last;refine⟨by have:=h.len;rw[Qi];simp;omega,e,λj=>?_,⟨l,rfl⟩,λr f=>?_⟩
 .obtain⟨m,rfl⟩:∃m,q=m+1:=⟨q-1,A7⟩;exact b.1.2.next
 .have d:=h.rest (a :: r) (mr.step b f);rw[List.dropLast_concat];rw[c,List.dropLast_concat] at d;rw[c,List.append_assoc];exact d
theorem rM.done{n a:Nat}{l:List Nat}(h:rM R t n l a 1):mr R t n t l:=by
 obtain⟨e,c⟩:=h.last;have d:=h.rest [a] (mr.stop a);rw[c,List.dropLast_concat] at d;rw[c];exact d
theorem Cv{p:Nat->Prop}{l:List Nat}(e:l.Pairwise (· <= ·))(f:∀y,p y->y∈l){k:Nat}(h:k<l.length)(i:p l[k])(m:∀j (b:j<l.length),j<k->¬p l[j]):Cn p l[k]:=by
 refine⟨i,λy d=>?_⟩;obtain⟨j,b,rfl⟩:=PN (f y d);rcases QH j k with c|rfl|c
 .exact QK d (m j b c)
 .exact Pw _
 .exact PM.1 e k j h b c
end
variable {S:Nat -> Prop}{w:QX}
theorem eY.but{w':QX}{t:TypeId}{a:QW}{l:List QV}(h:eY w t a l)(k:But S w w')(i:∀b,S b->¬bu w b t):eY w' t a l:=by
 rcases h with h|⟨b,d,e,j,c,m⟩
 .exact .inl h
 .have n:¬S b:=λp=>i b p ⟨d,e,c⟩
  have f:=(k.block b (aP c) n).trans c;exact .inr ⟨b,d,e,j,f,λq r=>by rw[PO (w:=w) (f.trans c.symm)];exact m q r⟩
def bY(w:QX)(xs:List QY)(l:List Q_):Prop:=xs.length=l.length*7/\∀i,i<l.length->∃xa xc,(xs.drop (i*7)).take 7= (l.getD i Q_.zero).cells xa xc/\eY w 9 xa (l.getD i Q_.zero).texts/\(xa=none->xc=0)
theorem bY.nil(w:QX):bY w [] []:=⟨rfl,λi a=>by simp at a⟩
variable {l:List Q_}{xs:List QY}
theorem bY.but{w':QX}(h:bY w xs l)(k:But S w w')(a:∀b,S b->¬bu w b 9):bY w' xs l:=⟨h.1,λi c=>by obtain⟨d,e,f,j,m⟩:=h.2 i c;exact⟨d,e,f,j.but k a,m⟩⟩
theorem bY.kept{w':QX}(h:bY w xs l)(k:K_ w w'):bY w' xs l:=h.but (S:=λ_=>False) (But.ak k) λ_ e=>e.elim
theorem bY.packed(h:bY w xs l):dE w (λ_=>True) xs l:=⟨h.1,λi a=>by obtain⟨b,c,d,e,f⟩:=h.2 i a;exact⟨b,c,d,e.strs,f,λ_ _=>trivial⟩⟩
theorem bY.snoc{r:Q_}{a:QW}{b:Nat}(h:bY w xs l)(j:eY w 9 a r.texts)(k:a=none->b=0):bY w (xs++r.cells a b) (l++[r]):=by
 refine⟨by simp[h.1,Q_.cells];omega,λi e=>?_⟩;rw[Qi] at e;simp only[Qn,List.length_nil] at e;by_cases f:i<l.length
 .have c:(l++[r]).getD i Q_.zero=l.getD i Q_.zero:=by simp[List.getD,Qx f]
  have d:((xs++r.cells a b).drop (i*7)).take 7= (xs.drop (i*7)).take 7:=by
   rw[List.drop_append_of_le_length (by rw[h.1];omega),List.take_append_of_le_length (by rw[List.length_drop,h.1];omega)]
  rw[c,d];exact h.2 i f
 .obtain rfl:i=l.length:=A7;have c:(l++[r]).getD l.length Q_.zero=r:=H7;have d:((xs++r.cells a b).drop (l.length*7)).take 7=r.cells a b:=by
   rw[<-h.1,List.drop_left]
   rfl
  rw[c,d];exact⟨a,b,rfl,j,k⟩
def Kg(w:QX)(S:Nat->Prop)(a:QW)(l:List QV):Prop:=∀i,i<l.length->∃b o,a=some ⟨b,o,none⟩/\b<w.heap.size/\¬S b/\w.cell? ⟨b,o+i,none⟩=some (.string (l.getD i ByteArray.empty))
theorem eY.nst{a:QW}{l:List QV}(h:eY w 9 a l)(f:∀b,S b->¬bu w b 9):Kg w S a l:=λi c=>by
 rcases h with rfl|⟨b,j,k,m,d,n⟩
 .simp at c
 .exact⟨b,0,m,aP d,λe=>f b e ⟨j,k,d⟩,by rw[Qb];exact n i c⟩
structure KnZ (wz w wr:QX)(kb:Nat)(v0:QY)(a:QW)(n cap:Nat)(R:List Q_)(d:QW)(dc:Nat)(xs:List QY):Prop where
 kw:K_ wz wr
 fr:But (λb=>b=kb\/v0.ownBlock=some b) w wr
 nw:∀b,(Value.slice d R.length dc).ownBlock=some b->v0.ownBlock=some b\/w.heap.size<=b
 known:jA wr kb a n cap d R.length dc
 own:wr.ownsRow wz.heap.size 59 7 (.slice d R.length dc) R.length xs
 pack:bY wr xs R
 nl:R.length=0->d=none/\dc=0
section
variable {wz w wr w':QX}{kb n cap dc:Nat}{v0:QY}{a d:QW}{R:List Q_}{xs:List QY}
theorem KnZ.kept(h:KnZ wz w wr kb v0 a n cap R d dc xs)(k:K_ wr w'):KnZ wz w w' kb v0 a n cap R d dc xs:=
 ⟨h.kw.trans k,h.fr.trans (But.ak k),h.nw,h.known.kept k,ay h.own k,h.pack.kept k,h.nl⟩
theorem KnZ.again(h:KnZ wz w wr kb v0 a n cap R d dc xs):KnZ wz wr wr kb (.slice d R.length dc) a n cap R d dc xs:=
 ⟨h.kw,But.ak (K_.refl _),λ_ e=>.inl e,h.known,h.own,h.pack,h.nl⟩
theorem KnZ.but(h:KnZ wz w wr kb v0 a n cap R d dc xs)(k:But S wr w')(e:∀b,S b->wz.heap.size<=b)(c:¬S kb)(f:∀b,(Value.slice d R.length dc).ownBlock=some b->¬S b)(i:∀b,S b->¬bu wr b 9):KnZ wz w' w' kb (.slice d R.length dc) a n cap R d dc xs:=
 ⟨k.kept h.kw e,But.ak (K_.refl _),λ_ j=>.inl j,⟨k.row h.known.row c,(k.cell h.known.row.lt c).trans h.known.web,(k.cell h.known.row.lt c).trans h.known.runs⟩,k.owns h.own f,h.pack.but k i,h.nl⟩
theorem KnZ.runs(h:KnZ wz w wr kb v0 a n cap R d dc xs):jD wr d R:=by
 obtain⟨_,e,f,b,c⟩:=dE.runs h.own h.pack.packed (K_.refl _);simp only[Qm,true_and] at b;rw[b.1];exact c.runs
theorem KnZ.grown{W h:QX}(i:KnZ wz w wr kb v0 a n cap R d dc xs)(l:K_ wr W)(m:W.grownBy h (Value.slice d R.length dc).ownBlock):K_ wz h/\jA h kb a n cap d R.length dc/\But (λb=>b=kb\/v0.ownBlock=some b) w h:=by
 have j:=i.known.kept l;have p:=ay i.own l;have r:=own_ne j.row p;have c:But (λb=>(Value.slice d R.length dc).ownBlock=some b) W h:=But.aI m λb k=>k;have e:=c.block kb j.row.lt λk=>r k.symm;refine⟨aL (i.kw.trans l) (Pw _) p m,⟨j.row.block e,(PO (w:=W) e).trans j.web,(PO (w:=W) e).trans j.runs⟩,?_⟩;have f:=i.fr.trans (But.ak l);refine⟨c.os.trans f.os,c.tape.trans f.tape,c.output.trans f.output,Pz f.size c.size,λb e q=>?_⟩;refine (c.block b (Px e f.size) λk=>?_).trans (f.block b e q);rcases i.nw b k with g|g
 .exact q (.inr g)
 .omega
theorem dN{W:QX}{base m:Nat}{v:QY}{a:List QY}(h:W.ownsRow base 59 7 v m a):∀b,v.ownBlock=some b->¬bu W b 9:=λ_ e c=>aN (Y_ h e) c A8 rfl
theorem KnZ.next{W c:QX}{f j:Nat}{v:QV}(h:KnZ wz w wr kb v0 a n cap R d dc xs)(r:wz.heap.size<=kb)(k:K_ wr W)(m:W.grownBy c (Value.slice d R.length dc).ownBlock)(q:c.ownsRow wz.heap.size 59 7 (.c f (R.length+1) j) (R.length+1) (xs++(Q_.fresh v).cells none 0))(s:(Value.slice d R.length dc).ownBlock=some f\/f=W.heap.size):
  KnZ wz w (c.setCell ⟨kb,1,none⟩ (.c f (R.length+1) j)) kb v0 a n cap (R++[Q_.fresh v]) (some ⟨f,0,none⟩) j (xs++(Q_.fresh v).cells none 0):=by
 obtain⟨t,i,x⟩:=h.grown k m;have l:(R++[Q_.fresh v]).length=R.length+1:=A9;have y:=ay h.own k;have z:But (λb=>(Value.slice d R.length dc).ownBlock=some b) W c:=But.aI m λb e=>e;have A:bY c xs R:=(h.pack.kept k).but z (dN y);have B:But (λb=>b=kb) c (c.setCell ⟨kb,1,none⟩ (.c f (R.length+1) j)):=But.set (S:=λb=>b=kb) (But.ak (K_.refl _)) (p:=⟨kb,1,none⟩) rfl _;have C:=A.but B λb e D=>aN i.row.type D A8 e.symm;refine⟨Below.setCell t (p:=⟨kb,1,none⟩) r _,x.set (.inl rfl) _,λb e=>?_,⟨i.row.set _,?_,?_⟩,?_,C.snoc (.inl rfl) λ_=>rfl,λe=>(by rw[l] at e;omega)⟩
 .simp only[Value.ownBlock,Ql] at e;subst e;rcases s with g|g
  .exact h.nw f g
  .refine .inr ?_;rw[g];exact Pz h.fr.size k.size
 .rw[Xk A7];exact i.web
 .rw[l];exact bB i.row.row A7 _
 .rw[l];exact JI q (own_ne i.row q) _
end
theorem qW(wz w:QX)(kb:Nat)(a6:wz.heap.size<=kb)(a:QW)(cap:Nat)(Kq:List Qz)(rd:QW)(rc:Nat)(names:List QV)(l:List Q_)(q:QW)(r:Nat)(T:List QY)(F:Kq.length<=1048576)(b9:names.length<=110)(c0:l.length<=1000)(f:KnZ wz w w kb (.slice q l.length r) a Kq.length cap l q r T)(G:dS wz a Kq)(hR:Kg w (λb=>b=kb\/(Value.slice q l.length r).ownBlock=some b) rd names):
  Calls prog 31 #[.h kb,.slice rd names.length rc] w λe w'=>e=.returned (.tuple #[])/\∃d dc xs,KnZ wz w w' kb (.slice q l.length r) a Kq.length cap (dw (Kk Kq) l names) d dc xs:=by
 have U:=Kz f;clear f;go_enter func31,ntmps31
 go_wp2
 go_loopw [4] (λH wr=>∃(k:Nat)(d:QW)(dc:Nat)(xs:List QY),k<=names.length/\H=.b k/\KnZ wz w wr kb (.slice q l.length r) a Kq.length cap (dw (Kk Kq) l (names.take k)) d dc xs) λH _=>names.length-(intOf H).toNat
 case atStart=>exact⟨0,q,r,T,Py _,rfl,U.o⟩
 case round=>
  obtain⟨k,d,dc,xs,hk,rfl,i⟩:=hrel;by_cases V:k<names.length
  .obtain⟨b,o,rfl,z,W,I⟩:=hR k V;have X:=Kz W;clear W;have J:K_ wz wr:=i.kw;obtain⟨R,L⟩:=aj (dw (Kk Kq) l (names.take k));have A:=Fw (Kk Kq) l V;rw[<-L] at i A;have c1:R.length<=1110:=by rw[L];have:=Br (Kk Kq) (names.take k) l;rw[PW] at this;omega
   obtain⟨v,Y⟩:=aj (names.getD k ByteArray.empty);rw[<-Y] at I A;have M:=Kz A;have B:=(i.fr.cell z X.o).trans I;have N:b<wr.heap.size:=Px z i.fr.size;have O:=i.known.web;have P:=i.known.runs;have C:=i.known.row.lt;have⟨Z,n⟩:=aJ i.runs i;clear L Y A i U;have i0:(k:Int)<(names.length:Int):=A7;by_cases t:(Kk Kq v).isSome=true
   .have x:Hid (∀w',K_ wr w'->(λw'=>w'.cell? ⟨kb,0,none⟩=some (.slice a Kq.length cap)/\w'.cell? ⟨kb,1,none⟩=some (.slice d R.length dc)/\w'.cell? ⟨b,o+k,none⟩=some (.string v)) w'):=λw' p=>⟨(p.cell C).trans O,(p.cell C).trans P,(p.cell N).trans B⟩
    by_cases D:(Qq R v).isNone=true
    .go_wp2
     go_region_held (λw'=>w'.cell? ⟨kb,0,none⟩=some (.slice a Kq.length cap)/\w'.cell? ⟨kb,1,none⟩=some (.slice d R.length dc)/\w'.cell? ⟨b,o+k,none⟩=some (.string v)) (exact bE x _ E8) ((first|(go_at_call 15;refine (Ei _ a cap Kq v F (G.kept (J.trans E8)) t).mono ?_;rintro e w1 ⟨⟨r1,rfl⟩,y⟩;have j:K_ wr w1:=K_.trans E8 y)|(go_at_call 33;refine (Mf _ kb a Kq.length cap d dc R v A7 (n.o.known.kept (j.trans E8)) (Z.o.kept (j.trans E8)) D).mono ?_;rintro e m ⟨⟨r2,rfl,c2⟩,rfl⟩)))
     all_goals
      have s:=n.o.kept j;have Q:=Kz s;have n1:=s.known.runs;have n0:=(j.cell N).trans B;have z2:=s.kw.size;have a7:b<m.heap.size:=Px z s.fr.size;have a8:kb<m.heap.size:=s.known.row.lt;have a9:Hid (∀w',K_ m w'->(λw'=>w'.cell? ⟨kb,1,none⟩=some (.slice d R.length dc)/\w'.cell? ⟨b,o+k,none⟩=some (.string v)) w'):=λw' bl=>⟨(bl.cell a8).trans n1,(bl.cell a7).trans n0⟩
      obtain⟨b0,b1,b2,b3,b4⟩:=bi Tryz.zC;clear s;go_wp2
      refine Qk.region C9 (λw'=>w'.cell? ⟨kb,1,none⟩=some (.slice d R.length dc)/\w'.cell? ⟨b,o+k,none⟩=some (.string v)) 14 ⟨n1,n0⟩ λc=>?_;refine ax 0 c ?_;refine ax 4 c ?_;refine ae 8 c ?_;refine ae 9 c ?_;refine au 10 λK f=>?_;go_simp
      have E:K_ m (m.alloc (.cells (Cf v).toArray 59)).drew:=(ai _ _).drew;refine af f (λ_=>a9.o _ E) ?_;clear f K c;refine au 11 λK f=>?_;refine step_append_lies _ rfl (.tmp 34) (.tmp 40) 55 rfl wz.heap.size 59 b0 _ 7 80 underlying55 b1 b2 b3 b4 rfl A8 (.slice d R.length dc) R.length xs E5 (ay Q.o.own E) ⟨m.heap.size,0,none⟩ 1 1 (Cf v) E5 rfl (λb5 u hu=>by rw[Qo];exact X_ m (Cf v).toArray 59 b5 u (by simpa using hu)) (Gv v) A7 D6 A7 D7 _ rfl ?_;intro g6 b6 w8 a0 S a1 c3;obtain⟨c4,a2,a3⟩:=Q.o.grown E S;have a4:=a2.row;obtain⟨⟨_,c5⟩,c6⟩:=a4.row.at (i:=1) A7;have a5:=(show _/\_ from ⟨a2.runs,(a3.cell z X.o).trans I⟩);have b7:=Kz (KnZ.next (v:=v) Q.o a6 E S a0 a1);clear a0 S a1 a4 a3;refine af f (λ_=>a5) ?_;clear f K;have c:=a5;refine ae 12 c ?_;refine ae 13 c ?_;refine au 14 λK f=>?_;go_simp
      refine af f (λh=>QK rfl h) ?_;clear f K;refine aF ?_;go_wp2
      go_roundw
      case rel=>exact⟨k+1,_,b6,_,A7,C8,by rw[M.o,QI ⟨t,D⟩];exact b7.o⟩
      case measure=>simp[intOf];omega
    .go_wp2
     go_region_held (λw'=>w'.cell? ⟨kb,0,none⟩=some (.slice a Kq.length cap)/\w'.cell? ⟨kb,1,none⟩=some (.slice d R.length dc)/\w'.cell? ⟨b,o+k,none⟩=some (.string v)) (exact bE x _ E8) ((first|(go_at_call 15;refine (Ei _ a cap Kq v F (G.kept (J.trans E8)) t).mono ?_;rintro e w1 ⟨⟨r1,rfl⟩,y⟩;have j:K_ wr w1:=K_.trans E8 y)|(go_at_call 33;refine (Ku _ kb a Kq.length cap d dc R v A7 (n.o.known.kept (j.trans E8)) (Z.o.kept (j.trans E8)) D).mono ?_;rintro e m ⟨⟨r2,rfl⟩,rfl⟩)))
     all_goals
      go_wp2
      go_roundw
      case rel=>exact⟨k+1,d,dc,xs,A7,C8,by rw[M.o,QJ λh=>D h.2];exact n.o.kept j⟩
      case measure=>simp[intOf];omega
   .have x:Hid (∀w',K_ wr w'->(λw'=>w'.cell? ⟨kb,0,none⟩=some (.slice a Kq.length cap)/\w'.cell? ⟨kb,1,none⟩=some (.slice d R.length dc)/\w'.cell? ⟨b,o+k,none⟩=some (.string v)) w'):=λw' p=>⟨(p.cell C).trans O,(p.cell C).trans P,(p.cell N).trans B⟩
    go_wp2
    refine Qk.region C9 (λw'=>w'.cell? ⟨kb,0,none⟩=some (.slice a Kq.length cap)/\w'.cell? ⟨kb,1,none⟩=some (.slice d R.length dc)/\w'.cell? ⟨b,o+k,none⟩=some (.string v)) 18 ⟨O,P,B⟩ λc=>?_;refine ax 0 c ?_;refine ax 4 c ?_;refine aD 8 λK f=>?_;go_simp
    go_at_call 15
    refine (Kh _ a cap Kq v F (G.kept (J.trans E8)) t).mono ?_;rintro e w1 ⟨rfl,y⟩;have j:K_ wr w1:=K_.trans E8 y;dsimp only;refine f.out _ _ (λ_=>x.o w1 j) ?_;clear f K c;have c:=x.o w1 j;try simp only[upP]
    refine ae 9 c ?_;refine ae 10 c ?_;refine aC 11 c ?_;refine aC 12 c ?_;refine aC 13 c ?_;refine aC 14 c ?_;refine aC 15 c ?_;refine aC 16 c ?_;refine aC 17 c ?_;refine au 18 λK f=>?_;go_simp
    refine af f (λh=>QK rfl h) ?_;clear f K;refine aF ?_;go_wp2
    go_roundw
    case rel=>exact⟨k+1,d,dc,xs,A7,C8,by rw[M.o,QJ λh=>t h.1];exact n.o.kept j⟩
    case measure=>simp[intOf];omega
  .have b8:k=names.length:=A7;subst b8;rw[Qc] at i;have n:=Kz i;clear i;go_wp2
   go_end0
   exact⟨rfl,_,_,_,n.o⟩
