import Derived.Test.YtjbipapbckajnaaGreatDoorKURes
import Derived.Test.YtjbipapbckajnaaGreatDoorKVNeeds
import Derived.Test.YtjbipapbckajnaaGreatDoorKBApp
set_option maxRecDepth 100000
set_option maxHeartbeats 25600000
namespace Go.Proofs.YtjbipapbckajnaaGreatDoor
open Go.RowKit Go.Proofs.Tryz
structure uN where
 code:Int
 res:List fC
 chain:List NG
 eF:Int
 cost:Int
theorem yP{w w1:NI}{v0 v1 v2 v3 v4:NJ}{t:TypeId}(k:K_ (w.alloc (.cells #[v0,v1,v2,v3,v4] t)) w1):w1.cell? ⟨w.heap.size,0,none⟩=some v0/\w1.cell? ⟨w.heap.size,1,none⟩=some v1/\w1.cell? ⟨w.heap.size,2,none⟩=some v2/\w1.cell? ⟨w.heap.size,3,none⟩=some v3/\w1.cell? ⟨w.heap.size,4,none⟩=some v4:=by
 have h:=X_ w #[v0,v1,v2,v3,v4] t;have z:w.heap.size<(w.alloc (.cells #[v0,v1,v2,v3,v4] t)).heap.size:=E9;exact⟨(k.cell z).trans (h 0 _ rfl),(k.cell z).trans (h 1 _ rfl),(k.cell z).trans (h 2 _ rfl),(k.cell z).trans (h 3 _ rfl),(k.cell z).trans (h 4 _ rfl)⟩
def sV(W:dA)(σ:Env)(n:NG):fC:=
 match bH W σ n with
 | some x=>⟨n,true,x.fail,x.text⟩
 | none=>⟨n,false,false,⟨#[]⟩⟩
def xu(σ:Env):Prop:=∀n r,σ n=some r->r.over=false->r.fail=false/\r.text= ⟨#[]⟩
theorem qX{A:fJ}{r:Q_}(h:r.fail=false/\r.text= ⟨#[]⟩)(a:(dZ A r).1.over=false):(dZ A r).1.fail=false/\(dZ A r).1.text= ⟨#[]⟩:=by
 unfold dZ at a⊢;simp only at a⊢;by_cases b:(stepOf A r.at').fin=true
 .rw[Nt b] at a;cases a
 .rw[Nu b];exact h
theorem Eg{W:dA}{σ:Env}{r:Q_}(h:r.fail=false/\r.text= ⟨#[]⟩)(a:(Xx W σ r).1.over=false):(Xx W σ r).1.fail=false/\(Xx W σ r).1.text= ⟨#[]⟩:=by
 unfold Xx at a⊢;cases e:W r.name with
 | none=>exact h
 | some A=>
  rw[e] at a;simp only at a⊢;by_cases b:r.Zq=0
  .rw[Nt b] at a⊢;exact qX h a
  .rw[Nu b] at a⊢;cases f:Yz W σ (stepOf A r.at').asks with
   | none=>exact h
   | some xs=>
    rw[f] at a;simp only at a⊢;by_cases c:r.Zq=20
    .rw[Nt c] at a;cases a
    .rw[Nu c] at a⊢;by_cases d:(eP (stepOf A r.at') xs).over=true
     .rw[Nt d] at a;cases a
     .rw[Nu d] at a⊢;exact qX (by exact h) a
theorem xu.did{W:dA}{σ:Env}(h:xu σ){n:NG}(f:bB W σ n):xu (doX W σ n):=by
 obtain⟨r,c,i⟩:=f;intro m q a d;rw[dV c] at a;by_cases e:m=n
 .rw[Nt e] at a;cases a;exact Eg (h n r c i.1) d
 .rw[Nu e] at a;cases b:σ m with
  | some x=>rw[b] at a;cases a;exact h m _ b d
  | none=>
   rw[b] at a;simp only at a
   split at a
   .cases a;exact⟨rfl,rfl⟩
   .cases a
theorem dU.L_{c:List Qz}{Kj:List NG}{b:List Q_}(d:dU c Kj b):xu (Qq b):=by
 obtain⟨_,_,_,j,L,l,e,_,rfl⟩:=d;refine e.keeps (P:=xu) (λσ m h i=>h.did i.1) (λm r a p=>?_);rw[gP] at a
 split at a
 .cases a;exact⟨rfl,rfl⟩
 .cases a
def bR(l:List fC):List NJ:=(l.map fC.cells).flatten
theorem tH(l:List fC):(bR l).length=l.length*4:=by
 induction l with
 | nil=>rfl
 | cons c r ih=>simp only[bR,List.map_cons,List.flatten_cons,MU,MX] at ih⊢;rw[ih];simp[fC.cells];omega
theorem oW(l:List fC)(c:fC):bR (l++ [c])=bR l++c.cells:=by simp[bR]
theorem p_ :∀(l:List fC) (i j:Nat),i<l.length->j<4->(bR l)[i*4+j]? = ((l.getD i fC.zero).cells)[j]?
 | [],_,_,h,_=>aO h
 | c :: r,0,j,_,hj=>by
  have e:bR (c :: r)=c.cells++bR r:=rfl;rw[e,Nat.zero_mul,MM,Ni (by simpa[fC.cells] using hj)]
  rfl
 | c :: r,i+1,j,h,hj=>by
  have e:bR (c :: r)=c.cells++bR r:=rfl;have b:c.cells.length=4:=rfl;rw[e,Nj (by rw[b];omega),b,show (i+1)*4+j-4=i*4+j by omega,p_ r i j (by simpa using h) hj]
  rfl
theorem wY{w:NI}{base:Nat}{t:TypeId}{v:NJ}{n:Nat}{l:List fC}(h:w.ownsRow base t 4 v n (bR l)):∃a b,v= .slice a l.length b/\qK w a l:=by
 have e:n=l.length:=by have:=h.1;rw[tH] at this;omega
 subst e;rcases h.2 with⟨rfl,f⟩|⟨g,b,p,rfl,q,k,r,_,_,_⟩
 .exact⟨none,0,by rw[f],λi c=>E5⟩
 .refine⟨_,b,rfl,λi c=>⟨g,0,rfl,aN k,λj u d=>?_⟩⟩;have m:j<4:=by have:=(Mk.1 d).1;simpa[fC.cells] using this
  have:=h.cells (g:=g) rfl (i*4+j) u (by rw[p_ l i j c m];exact d);rw[MZ,MM] at this;rw[MM];exact this
theorem jo.len{E:NG->NG->Prop}{names a:List NG}(h:jo E names a)(b:∀x y,E x y->x∈names):a.length<=names.length:=by
 by_cases e:a=[]
 .rw[e];exact Mg _
 .obtain⟨t,n,_,c,_,d,_⟩:=h.yes e;have:=c.bound b;omega
def jw(W:dA)(n:NG):Int:=match W n with | some A=>A.cost | none=>0
theorem uu{W:dA}{n:NG}{A:fJ}(h:W n=some A):jw W n=A.cost:=by unfold jw;rw[h]
def dK(l:List Q_):Int:=(l.map λr=>r.Zq).sum
def fO(W:dA)(l:List Q_):Int:=(l.map λr=>r.Zq*jw W r.name).sum
theorem uj(l:List Q_)(r:Q_):dK (l++ [r])=dK l+r.Zq:=by simp[dK]
theorem vR(W:dA)(l:List Q_)(r:Q_):fO W (l++ [r])=fO W l+r.Zq*jw W r.name:=by simp[fO]
theorem tN{W:dA}(a:bg W)(n:NG):0<=jw W n/\jw W n<=20:=by
 unfold jw;cases h:W n with
 | none=>exact⟨Int.le_refl _,E8⟩
 | some A=>have:=(a n A h).1.1;show 0<=A.cost/\A.cost<=20;exact⟨E5,this.2⟩
theorem wN :∀{l:List Q_},(∀r∈l,0<=r.Zq/\r.Zq<=20)->0<=dK l/\dK l<=20*(l.length:Int)
 | [],_=>⟨Int.le_refl _,Int.le_refl _⟩
 | r :: l,h=>by
  have b:=wN (l:=l) (λx a=>h x (MB _ a));have c:=h r (List.mem_cons_self ..);have e:dK (r :: l)=r.Zq+dK l:=by simp[dK]
  rw[e,MX];omega
theorem Ig{v c:Int}(a:0<=v/\v<=20)(h2:0<=c/\c<=20):0<=v*c/\v*c<=400:=by
 refine⟨Int.mul_nonneg a.1 h2.1, ?_⟩;have b:v*c<=20*c:=Int.mul_le_mul_of_nonneg_right a.2 h2.1;omega
theorem AB{W:dA}(a:bg W):∀{l:List Q_},(∀r∈l,0<=r.Zq/\r.Zq<=20)->0<=fO W l/\fO W l<=400*(l.length:Int)
 | [],_=>⟨Int.le_refl _,Int.le_refl _⟩
 | r :: l,h=>by
  have c:=AB a (l:=l) (λx b=>h x (MB _ b));have d:=Ig (h r (List.mem_cons_self ..)) (tN a r.name);have e:fO W (r :: l)=r.Zq*jw W r.name+fO W l:=by simp[fO]
  rw[e,MX];omega
variable {Kq : List Qz}
theorem JZ(c:bg (Kk Kq)){l:List Q_}(a:dD Kq l)(f:l.length<=60)(k:Nat):0<=dK (l.take k)/\dK (l.take k)<=1200/\0<=fO (Kk Kq) (l.take k)/\fO (Kk Kq) (l.take k)<=24000:=by
 have h:∀r∈l.take k,0<=r.Zq/\r.Zq<=20:=λr b=>⟨(a.good r (List.mem_of_mem_take b)).lo,(a.good r (List.mem_of_mem_take b)).hi⟩
 have d:=wN h;have e:=AB c h;have i:(l.take k).length<=60:=G9;exact⟨d.1,E5,e.1,E5⟩
structure LC (Kq:List Qz) (Kj:List NG) (sl:List Q_) (o:uN):Prop where
 res:o.res=Kj.map (sV (Kk Kq) (Qq sl))
 eF:o.eF=dK sl
 cost:o.cost=fO (Kk Kq) sl
 rest:((¬∃r∈o.res,r.over=false)/\o.code=0/\o.chain=[])\/((∃r∈o.res,r.over=false)/\(∃r∈sl,aT (Kk Kq) (Qq sl) r)/\o.code=2/\o.chain=[])\/((∃r∈o.res,r.over=false)/\(¬∃r∈sl,aT (Kk Kq) (Qq sl) r)/\o.code=1/\yK (bI (Kk Kq) (Qq sl)) o.chain)
def EM :uN:=⟨9,[],[],0,0⟩
def nA(Kq:List Qz)(Kj:List NG)(sl:List Q_)(o:uN):Prop:=(o.res.length<=10/\o.chain.length<=60)/\((dU Kq Kj sl/\LC Kq Kj sl o)\/(¬dU Kq Kj sl/\o=EM))
theorem Fp{a:List Q_}(b:dD Kq a){n:NG}(c:n.size<=20):(sV (Kk Kq) (Qq a) n).text.size<=200:=by
 unfold sV;cases h:bH (Kk Kq) (Qq a) n with
 | none=>exact Mg _
 | some x=>exact vX b.env c h
theorem dU.Ka{Kj:List NG}{d:List Q_}(f:dU Kq Kj d):∀n∈Kj,(∃r∈d,r.name=n)\/Kk Kq n=none:=by
 obtain⟨_,_,_,l,L,p,i,_,rfl⟩:=f;have h:=i.keeps (P:=λσ=>∀n∈Kj,(σ n).isSome=true\/Kk Kq n=none) (λσ m h j n b=>by
  rcases h n b with a|a
  .refine .inl ?_;obtain⟨r,c,_⟩:=j.1;rw[dV c];by_cases e:n=m
   .rw[Nt e];rfl
   .rw[Nu e];cases k:σ n with
    | none=>rw[k] at a;cases a
    | some x=>rfl
  .exact .inr a) (λn b=>by
  rw[gP];cases q:Kk Kq n with
  | none=>exact .inr rfl
  | some A=>rw[Nt ⟨cK.2 b,rfl⟩];exact .inl rfl)
 intro n b;rcases h n b with a|a
 .obtain⟨r,c⟩:=MF.1 a;exact .inl ⟨r,(aY c).1,(aY c).2⟩
 .exact .inr a
section
variable {E : NG -> NG -> Prop} {x : NG} {out more list : List NG}
end
theorem jO.one{W:dA}{σ:Env}{r:Q_}{L e:List NG}(f:(W r.name).isSome=true)(v:jO W σ r L)(w:jO W σ r e):L=e:=by
 obtain⟨x,c,h⟩:=v;obtain⟨m,b,k⟩:=w;have l:∀{i j:Nat} {A B:List NG},aJ W σ r.name i= (r,A)->aJ W σ r.name j= (r,B)->(∀q,q<i->aT W σ (aJ W σ r.name q).1)->(∀q,q<j->aT W σ (aJ W σ r.name q).1)->¬i<j:=λ{i j A B} y n z p C=>by
  have d:=(p i C).1;have s:=fG f z d;rw[y] at d s;have t:=fG f p (by rw[n];exact d);rw[n] at t;simp only at s t;omega
 have:x=m:=by
  have a:=l c b h k;have D:=l b c k h;omega
 subst this;rw[c] at b;exact (Prod.mk.inj b).2
def uT(W:dA)(σ:Env):Prop:=∀n r,σ n=some r->r.name=n/\∃L,jO W σ r L
theorem uT.did{W:dA}{σ:Env}{n:NG}(j:uT W σ)(b:bB W σ n):uT W (doX W σ n):=by
 obtain⟨r,d,l⟩:=b;have b:bB W σ n:=⟨r,d,l⟩;intro m q a;rw[dV d] at a;by_cases e:m=n
 .rw[Nt e] at a;cases a;obtain⟨f,L,h⟩:=j n r d;exact⟨by rw[di,f,e],_,(h.unit l).mono b⟩
 .rw[Nu e] at a;cases i:σ m with
  | some x=>
   rw[i] at a;simp only[MV] at a;subst a;obtain⟨f,L,h⟩:=j m x i;exact⟨f,L,h.mono b⟩
  | none=>
   rw[i] at a;simp only at a
   split at a
   .cases a;exact⟨rfl,_,jO.start m⟩
   .cases a
section
variable {E : NG -> NG -> Prop} {names done asks out : List NG} {name x : NG} {l0 k : Nat} {b : Bool}
end
structure ClT (W:dA) (σ:Env):Prop where
 Jm:uT W σ
 web:∀n r,σ n=some r->(W n).isSome=true
 cl:∀n r L,σ n=some r->jO W σ r L->∀m∈L,(W m).isSome=true->(σ m).isSome=true
variable {W : dA} {n : NG} {σ : Env}
theorem xA{m:NG}(a:bB W σ n)(h:(σ m).isSome=true):(doX W σ n m).isSome=true:=by
 obtain⟨r,b,_⟩:=a;rw[dV b];by_cases e:m=n
 .rw[Nt e];rfl
 .rw[Nu e];obtain⟨x,c⟩:=MF.1 h;rw[c];rfl
theorem ClT.did(h:ClT W σ)(b:bB W σ n):ClT W (doX W σ n):=by
 have v:=h.Jm.did b;obtain⟨r,c,w⟩:=b;have b:bB W σ n:=⟨r,c,w⟩;have z:∀m q,doX W σ n m=some q->(W m).isSome=true:=λm q a=>by
  rw[dV c] at a;by_cases f:m=n
  .rw[f];exact h.web n r c
  .rw[Nu f] at a;cases d:σ m with
   | some x=>exact h.web m x d
   | none=>
    rw[d] at a;simp only at a
    split at a
    .next g=>exact g.2
    .cases a
 refine⟨v,z,λm q L a l y e p=>?_⟩;have s:=(v m q a).1;have t:=z m q a;have D:=a;rw[dV c] at a;by_cases f:m=n
 .rw[Nt f] at a;cases a;obtain⟨B,k,i⟩:=h.Jm n r c;have C:jO W (doX W σ n) (Xx W σ r).1 (k++ (Xx W σ r).2):=(i.unit w).mono b;have j:=jO.one (by rw[s];exact t) l C;rw[j] at e;rcases Mo.1 e with g|g
  .exact xA b (h.cl n r k c i y g p)
  .rw[dV c];by_cases A:y=n
   .rw[Nt A];rfl
   .rw[Nu A];cases E:σ y with
    | some x=>rfl
    | none=>simp only;rw[Nt ⟨cK.2 g,p⟩];rfl
 .rw[Nu f] at a;cases d:σ m with
  | some x=>
   rw[d] at a;simp only[MV] at a;subst a;obtain⟨B,k,i⟩:=h.Jm m x d;have j:=jO.one (by rw[s];exact t) l (i.mono b);rw[j] at e;exact xA b (h.cl m x k d i y e p)
  | none=>
   rw[d] at a;simp only at a
   split at a
   .cases a;have j:=jO.one (by rw[s];exact t) l (jO.start m);rw[j] at e;cases e
   .cases a
theorem ClT.start{d:List Qz}(Kj:List NG):ClT (Kk d) (Qq (bM d Kj)):=by
 have e:∀n r,Qq (bM d Kj) n=some r->r=Q_.fresh n/\(Kk d n).isSome=true:=λn r b=>by
  rw[gP] at b
  split at b
  .next g=>cases b;exact⟨rfl,g.2⟩
  .cases b
 refine⟨λn r b=>?_,λn r b=>(e n r b).2,λn r L b h y f _=>?_⟩
 .obtain⟨rfl,_⟩:=e n r b;exact⟨rfl,_,jO.start n⟩
 .obtain⟨rfl,i⟩:=e n r b;have j:=jO.one (by exact i) h (jO.start n);rw[j] at f;cases f
variable {τ : Env}
theorem ClT.led{k:Nat}(h:ClT W σ)(b:a_ (bB W) (doX W) σ τ k):ClT W τ :=b.keeps (P:=ClT W) (λ_ _ g c=>g.did c) h
theorem vN{k:Nat}:∀{m:Nat},k<=m->∀y∈(aJ W σ n k).2,y∈(aJ W σ n m).2
 | 0,h,y,hy=>by
  obtain rfl:k=0:=E5;exact hy
 | m+1,h,y,hy=>by
  by_cases e:k=m+1
  .subst e;exact hy
  .unfold aJ;exact Mo.2 (.inl (vN (m:=m) E5 y hy))
def Cg(W:dA)(σ:Env)(n:NG)(k:Nat):Env:=λm=>if m=n then some (aJ W σ n k).1 else match σ m with
 | some x=>some x
 | none=>if eH (aJ W σ n k).2 m=true/\(W m).isSome=true then some (Q_.fresh m) else none
theorem yX :∀(j:Nat) {σ:Env} {k0:Nat},σ n=some (aJ W σ n k0).1->(∀i,i<k0+j->aT W σ (aJ W σ n i).1)->(∀y∈(aJ W σ n k0).2,(W y).isSome=true->(σ y).isSome=true)->a_ (bB W) (doX W) σ (Cg W σ n (k0+j)) j
 | 0,σ,k0,h,_,hcl=>by
  have e:Cg W σ n (k0+0)=σ:=by
   funext m
   unfold Cg;rw[M_];by_cases e:m=n
   ·rw[Nt e,e,h]
   ·rw[Nu e];cases d:σ m with
    | some x=>rfl
    | none=>
     simp only;rw[Nu];rintro⟨q,r⟩;have:=hcl m (cK.1 q) r;rw[d] at this;cases this
  rw[e];exact .here σ
 | j+1,σ,k0,h,hg,hcl=>by
  have s:=hg k0 (by omega);have b:bB W σ n:=⟨_,h,s⟩;have c:∀{i:Nat},i<=k0+ (j+1)->aJ W (doX W σ n) n i=aJ W σ n i:=fun {i} t=>jr b (fun v B=>hg v (by omega))
  have w:doX W σ n n=some (aJ W (doX W σ n) n (k0+1)).1:=by
   rw[iV h,c (by omega)]
   rfl
  have z:=yX j (σ:=doX W σ n) (k0:=k0+1) w (fun i t=>by rw[c (by omega)];exact (hg i (by omega)).mono b) (fun y f l=>by
   rw[c (by omega)] at f;have A:y∈(aJ W σ n k0).2++ (Xx W σ (aJ W σ n k0).1).2:=f;rcases Mo.1 A with g|g
   ·exact xA b (hcl y g l)
   ·rw[dV h];by_cases p:y=n
    ·rw[Nt p];rfl
    ·rw[Nu p];cases C:σ y with
     | some x=>rfl
     | none=>simp only;rw[Nt ⟨cK.2 g,l⟩];rfl)
  have e:Cg W (doX W σ n) n (k0+1+j)=Cg W σ n (k0+ (j+1)):=by
   funext m
   unfold Cg;rw[show k0+1+j=k0+ (j+1) by omega,c (by omega)];by_cases a:m=n
   ·rw[Nt a,Nt a]
   ·rw[Nu a,Nu a,dV h,Nu a];cases d:σ m with
    | some x=>rfl
    | none=>
     simp only;by_cases g:eH (Xx W σ (aJ W σ n k0).1).2 m=true/\(W m).isSome=true
     ·rw[Nt g];simp only;rw[Nt];refine⟨cK.2 (vN (k:=k0+1) (by omega) m ?_),g.2⟩;exact Mo.2 (.inr (cK.1 g.1))
     ·rw[Nu g]
  rw[<-e];exact .step σ _ n j b z
def nN(W:dA)(σ τ :Env):Prop:=∀n,bH W σ n=bH W τ n
theorem nN.answers(h:nN W σ τ):∀l,Yz W σ l=Yz W τ l
 | []=>rfl
 | a :: l=>by unfold Yz;rw[h a,nN.answers h l]
theorem nN.can(h:nN W σ τ)(r:Q_):aT W σ r↔aT W τ r:=by unfold aT;simp only[h.answers]
theorem nN.next(h:nN W σ τ)(r:Q_):Xx W σ r=Xx W τ r:=by unfold Xx;simp only[h.answers]
theorem nN.again(h:nN W σ τ)(n:NG):∀k,aJ W σ n k=aJ W τ n k
 | 0=>rfl
 | k+1=>by unfold aJ;rw[nN.again h n k,h.next]
theorem Ga{j k:Nat}(c:a_ (bB W) (doX W) σ τ j):(∀i,i<k->aT W σ (aJ W σ n i).1)->(∀i,i<=k->aJ W τ n i=aJ W σ n i)/\∀i,i<k->aT W τ (aJ W τ n i).1:=by
 induction c with
 | here s=>exact λh=>⟨λ_ _=>rfl,h⟩
 | step s t m j hr _ ih=>
  intro h;have b:∀{i:Nat},i<=k->aJ W (doX W s m) n i=aJ W s n i:=λ{i} a=>jr hr (λq f=>h q E5)
  obtain⟨d,e⟩:=ih (λi a=>by rw[b E5];exact (h i a).mono hr);exact⟨λi a=>(d i a).trans (b a),e⟩
theorem JJ{j:Nat}(names:List NG)(e:a_ (bB W) (doX W) σ τ j):WfX W σ->(∀n,(W n).isSome=true->n∈names)->b_ names τ +j<=b_ names σ:=by
 induction e with
 | here s=>exact λ_ _=>Me _
 | step s t m j hr _ ih=>
  intro a b;have f:=ih (AJ a hr) b;obtain⟨r,d,_⟩:=hr;have h:=(mF a ⟨r,d,H8⟩ names).2 (b m (a m r d).web);omega
def DR(Kq:List Qz)(Kj:List NG)(sl:List Q_):Prop:=
 dD Kq sl/\(∃k,a_ (bB (Kk Kq)) (doX (Kk Kq)) (Qq (bM Kq Kj)) (Qq sl) k)/\AtEnd (bB (Kk Kq)) (Qq sl)
theorem DR.one{a:List Qz}{Kj:List NG}{b c:List Q_}(h:DR a Kj b)(k:DR a Kj c):c=b:=by
 obtain⟨d,⟨m,e⟩,f⟩:=h;obtain⟨i,⟨n,j⟩,l⟩:=k;exact xq i.asc d.asc (j.unique nH l e f)
structure KL (Kq:List Qz) (Kj:List NG) (sl:List Q_) (o:uN):Prop where
 fin:DR Kq Kj sl
 res:o.res=Kj.map (sV (Kk Kq) (Qq sl))
 eF:o.eF=dK sl
 cost:o.cost=fO (Kk Kq) sl
 rest:((¬∃r∈o.res,r.over=false)/\o.code=0/\o.chain=[])\/((∃r∈o.res,r.over=false)/\o.code=1/\yK (bI (Kk Kq) (Qq sl)) o.chain)
def oU(Kq:List Qz)(Kj:List NG)(o:uN):Prop:=(o.res.length<=10/\o.chain.length<=60)/\((bv Kq 0/\dR Kj/\∃sl,KL Kq Kj sl o)\/(¬(bv Kq 0/\dR Kj)/\o=EM))
section
variable {W : dA} {σ τ : Env}
theorem Ky{k:Nat}(h:a_ (bB W) (doX W) σ τ k):a_ (Behind (W:=W) (λr _=>r.over=false) (λn=>some (Q_.fresh n))) (doX W) σ τ k:=
 h.wide λ_ _ a=>⟨a,by obtain⟨r,c,d⟩:=a;exact⟨r,_,c,rfl,d.1⟩⟩
theorem LB{τ :Env}:∀{j:Nat} {σ:Env},WfX W σ->a_ (bB W) (doX W) σ τ j->a_ (Behind (W:=W) bF τ) (doX W) σ τ j:=by
 intro j
 induction j with
 | zero=>intro σ _ h;cases h;exact .here _
 | succ j ih=>
  intro σ b h;cases h with
  | step _ _ n _ hn hr=>
   have c:=AJ b hn;refine .step _ _ n _ ⟨hn, ?_⟩ (ih c hr);obtain⟨r,a,i⟩:=hn;obtain⟨g,d,l⟩:=qV (Ky hr) c (iV a);have f:=b n r a;refine⟨r,g,a,d, ?_⟩;rcases fH i (by rw[f.name];exact f.web) with e|⟨e1,e,eo⟩
   .exact .inl E5
   .have k:=ut (Ky hr) (iV a) (λ_ _ e=>by rw[eo] at e;cases e);obtain rfl:=Ng (d.symm.trans k);exact .inr ⟨E5,eo,E5⟩
theorem DC{r:Q_}(h:aT W σ r)(c:(W r.name).isSome=true):(Xx W σ r).1.Zq=r.Zq+1\/(r.Zq=20/\(Xx W σ r).1= {r with over:=true,fail:=true,text:=iJ}):=by
 by_cases a:r.Zq=20
 .rcases h.2 with b|⟨f,i,b,d⟩
  .omega
  .exact .inr ⟨a,by unfold Xx;simp[b,d,a]⟩
 .rcases fH h c with e|⟨e,_⟩
  .exact .inl e
  .exact Nv e a
end
variable {Kj : List NG} {Kq : List Qz}
theorem Cu{a:List Q_}{k:Nat}(b:bv Kq 0)(f:dR Kj)(c:dD Kq a)(i:a_ (bB (Kk Kq)) (doX (Kk Kq)) (Qq (bM Kq Kj)) (Qq a) k):dU Kq Kj a:=by
 refine⟨b,f,c.len,k,a,c,LB (fZ (cO b) Kj).wf i, ?_,rfl⟩;rintro n ⟨⟨r,j,l⟩,p,g,d,e,m⟩;rw[j] at d e;obtain rfl:=Ng d;obtain rfl:=Ng e;rcases m with h|⟨_,h,_⟩
 .omega
 .rw[l.1] at h;cases h
def kY(x:NG)(l:List NG):Nat:=(l.filter λy=>decide (y=x)).length
theorem zu(x y:NG)(l:List NG):kY x (l++ [y])=kY x l+if y=x then 1 else 0:=by
 unfold kY;rw[List.filter_append,MU];by_cases e:y=x <;> simp[e]
theorem Fv(x y:NG)(l:List NG):kY x (y :: l)= (if y=x then 1 else 0)+kY x l:=by
 unfold kY;by_cases e:y=x <;> simp[e] <;> omega
theorem Al(x:NG)(l:List NG):kY x l<=l.length:=List.length_filter_le _ _
structure sG (T:List Q_) (D:List NG):Prop where
 no:∀n,Qq T n=none->n∉D/\kY n D=0
 yes:∀n r,Qq T n=some r->(kY n D:Int)=r.Zq\/((kY n D:Int)=r.Zq+1/\r.over=true/\r.text=iJ/\r.Zq=20)
theorem sG.start(b:List Qz)(Kj:List NG):sG (bM b Kj) []:=by
 refine⟨λn _=>⟨E9,rfl⟩,λn r h=>?_⟩;rw[gP] at h
 split at h
 .cases h;exact .inl rfl
 .cases h
variable {D : List NG} {T : List Q_}
theorem sG.did{n:NG}{r:Q_}(h:sG T D)(d:dD Kq T)(c:Qq T n=some r)(f:aT (Kk Kq) (Qq T) r):sG (doL (Kk Kq) T r) (D++ [n]):=by
 have i:=d.wf n r c;have l:(kY n D:Int)=r.Zq:=by
  rcases h.yes n r c with e|⟨_,e,_⟩
  .exact e
  .rw[f.1] at e;cases e
 refine⟨λm a=>?_,λm x a=>?_⟩ <;> rw[pI d.asc c,dV c] at a <;> rw[zu] <;> by_cases e:m=n
 .rw[Nt e] at a;cases a
 .rw[Nu e] at a;cases b:Qq T m with
  | some y=>rw[b] at a;cases a
  | none=>
   obtain⟨j,k⟩:=h.no m b;exact⟨by simp[j,e],by rw[k,Nu (Ne.symm e)]⟩
 .rw[Nt e] at a;subst e;obtain rfl:=Ng a;rw[Nt rfl];rcases DC f (by rw[i.name];exact i.web) with e|⟨e1,e2⟩
  .exact .inl (by rw[e];omega)
  .exact .inr (by rw[e2];exact⟨by simp only;omega,rfl,rfl,e1⟩)
 .rw[Nu e] at a;rw[Nu (Ne.symm e),M_];cases b:Qq T m with
  | some y=>rw[b] at a;cases a;exact h.yes m _ b
  | none=>
   rw[b] at a;simp only at a
   split at a
   .cases a;exact .inl (by rw[(h.no m b).2];rfl)
   .cases a
theorem uR.reach{c:List Int}(l:bg (Kk Kq)){a:List Q_}{d:List NG}(h:uR Kq c T D a d):dD Kq T->sG T D->dD Kq a/\(∃k,a_ (bB (Kk Kq)) (doX (Kk Kq)) (Qq T) (Qq a) k)/\bU (Kk Kq) (Qq a) a []/\sG a d:=by
 induction h with
 | stop h=>exact λb e=>⟨b,⟨0,.here _⟩,h,e⟩
 | @step T a D d ns r h hn hr _ ih=>
  intro b e;have m:ns.getD (ma c D.length ns.length) ByteArray.empty∈ns:=by
   have i:=sH c D.length hn;simp only[List.getD,Mj i,Nw];exact Mq i
  obtain⟨t,n,f⟩:=(h.ready b.asc _).1 m;obtain rfl:=Ng (hr.symm.trans n);obtain⟨p,⟨k,j⟩,q,s⟩:=ih (rU l b (aY hr).1 f) (e.did b hr f);rw[pI b.asc hr] at j;exact⟨p,⟨k+1,.step _ _ _ _ ⟨r,hr,f⟩ j⟩,q,s⟩
theorem Gw(a:dD Kq T)(h:bU (Kk Kq) (Qq T) T []):AtEnd (bB (Kk Kq)) (Qq T):=λn d=>by
 have:=(h.ready a.asc n).2 d;cases this
def pX(D:List NG)(l:List Q_):Nat:=(l.map λr=>kY r.name D).sum
theorem GM(D:List NG)(l:List Q_)(r:Q_):pX D (l++ [r])=pX D l+kY r.name D:=by simp[pX]
theorem zi(d:NG)(D:List NG):∀l:List Q_,pX (d :: D) l= (l.filter λr=>decide (d=r.name)).length+pX D l
 | []=>rfl
 | r :: l=>by
  show kY r.name (d :: D)+pX (d :: D) l= ((r :: l).filter λr=>decide (d=r.name)).length+ (kY r.name D+pX D l);rw[zi d D l,Fv,List.filter_cons];by_cases e:d=r.name
  .rw[Nt e,Nt (decide_eq_true e),MX];omega
  .rw[Nu e,Nu (by simpa using e)];omega
theorem BX :∀l:List Q_,pX [] l=0
 | []=>rfl
 | r :: l=>by show 0+pX [] l=0;rw[BX l]
theorem zC{d:NG}:∀{l:List Q_},df l->(∃r∈l,r.name=d)->(l.filter λr=>decide (d=r.name)).length=1
 | [],_,⟨_,h,_⟩=>by cases h
 | r :: l,ha,⟨x,h,e⟩=>by
  have b:=NC.1 ha;by_cases a:d=r.name
  .have:l.filter (λr=>decide (d=r.name))=[]:=List.filter_eq_nil_iff.2 λy c=>by
    have:=dJ (b.1 y c);simp only[NA];rw[a];exact this
   simp[a ▸ this,a]
  .rcases Na.1 h with rfl|h
   .exact Nv e.symm a
   .simp only[List.filter_cons,a,decide_false,Bool.false_eq_true,if_false];exact zC b.2 ⟨x,h,e⟩
theorem Cj{l:List Q_}(a:df l):∀{D:List NG},(∀d∈D,∃r∈l,r.name=d)->pX D l=D.length
 | [],_=>BX l
 | d :: D,h=>by
  rw[zi,zC a (h d E9),Cj a (λx c=>h x (MB _ c)),MX];omega
theorem sG.all(h:sG T D)(a:df T):pX D T=D.length:=Cj a λd b=>by
 cases e:Qq T d with
 | none=>exact Nv b (h.no d e).1
 | some r=>exact⟨r,(aY e).1,(aY e).2⟩
theorem sG.one(h:sG T D)(a:df T){r:Q_}(b:r∈T):(kY r.name D:Int)=r.Zq\/((kY r.name D:Int)=r.Zq+1/\r.text=iJ/\r.Zq=20):=by
 rcases h.yes r.name r (bJ a b) with e|⟨e,_,c,d⟩
 .exact .inl e
 .exact .inr ⟨e,c,d⟩
theorem Dr{b:List Int}(a:bv Kq 0)(d:dR Kj)(h:uR Kq b (bM Kq Kj) [] T D):dU Kq Kj T/\bU (Kk Kq) (Qq T) T []/\DR Kq Kj T/\sG T D:=by
 obtain⟨g,⟨k,l⟩,e,c⟩:=h.reach (cO a) (fZ (cO a) Kj) (sG.start Kq Kj);exact⟨Cu a d g l,e,⟨g,⟨k,l⟩,Gw g e⟩,c⟩
theorem Et{o p:uN}(b:dU Kq Kj T)(c:DR Kq Kj T)(h:nA Kq Kj T o)(k:oU Kq Kj p):o.eF=p.eF:=by
 rcases h.2 with⟨_,h⟩|⟨h,_⟩
 .rcases k.2 with⟨_,_,d,k⟩|⟨k,_⟩
  .rw[h.eF,k.eF,c.one k.fin]
  .exact Nv ⟨b.1,b.2.1⟩ k
 .exact Nv b h
theorem Tryz.CW :(prog.info? 40).map (·.size)=some 7:=F4
theorem Tryz.CV :(prog.info? 40).map (λi=>(i.zero,i.size,i.bytes))=some (some (.agg #[.string ⟨#[]⟩,.bool false,.bool false,.string ⟨#[]⟩,.a 0,.a 0,M0]),7,80):=F4
theorem Tryz.EA :(prog.info? 32).map (·.size)=some 2:=F4
def jy(w:NI)(B j lo hi:Nat)(r:Q_):Prop:=
 ∃xa xc,w.rangeAt B (j*7) (r.cells xa xc)/\bX w lo hi xa r.texts/\(xa=none->xc=0)
variable {hi lo : Nat} {w w' : NI}
theorem jy.same{B j:Nat}{r:Q_}(h:jy w B j lo hi r)(k:Same lo hi w w')(a:w'.rangeAt B (j*7)=w.rangeAt B (j*7)):jy w' B j lo hi r:=by
 obtain⟨b,c,d,e,f⟩:=h;exact⟨b,c,by rw[a];exact d,e.same k,f⟩
def h_(w:NI)(lo hi:Nat)(a:NH)(l:List Q_):Prop:=
 l=[]\/∃(b:Nat) (c:Nat->Nat),a=some ⟨b,0,none⟩/\lo<=b/\b<c 0/\c l.length<=hi/\Row w b (l.length*7)/\(∀i j,i<=j->c i<=c j)/\∀i,i<l.length->jy w b i (c i) (c (i+1)) (l.getD i Q_.zero)
variable {a : NH}
theorem h_.same{l:List Q_}(h:h_ w lo hi a l)(k:Same lo hi w w'):h_ w' lo hi a l:=by
 rcases h with h|⟨d,c,p,e,f,j,m,b,q⟩
 .exact .inl h
 .have n:d<hi:=Mf f (Mh (b 0 _ (Mg _)) j);refine .inr ⟨d,c,p,e,f,j,k.row e n m,b,λi r=>(q i r).same (k.mono ?_ ?_) (rangeAt_of_block (k d e n m.lt) _)⟩
  .have:=b 0 i (Mg _);omega
  .have:=b (i+1) l.length E5;omega
theorem h_.mono{c d:Nat}{l:List Q_}(h:h_ w lo hi a l)(n:c<=lo)(h2:hi<=d):h_ w c d a l:=by
 rcases h with h|⟨b,e,f,p,i,q,j,k,m⟩
 .exact .inl h
 .exact .inr ⟨b,e,f,E5,i,E5,j,k,m⟩
theorem h_.runs{l:List Q_}(h:h_ w lo hi a l):cB w a l:=by
 rcases h with rfl|⟨b,c,d,q,r,s,e,t,f⟩
 .intro i hi;simp at hi
 .intro i hi;obtain⟨j,k,m,n,p⟩:=f i hi;exact⟨b,0,j,k,d,e.lt,by rw[MM];exact m,n.strs,p⟩
theorem jy.kept{B j:Nat}{r:Q_}(h:jy w B j lo hi r)(k:K_ w w')(c:B<w.heap.size):jy w' B j lo hi r:=
 h.same (k.same _ _) (rangeAt_of_block (k.block B c) _)
theorem jy.setCells{B j o:Nat}{r:Q_}{vs:List NJ}(h:jy w B j lo hi r)(a:B<lo)(b:j*7+7<=o\/o+vs.length<=j*7):jy (w.setCells B o vs) B j lo hi r:=by
 obtain⟨c,d,e,f,i⟩:=h;exact⟨c,d,Mx e _ _ _ (by right;simpa[Q_.cells,or_comm] using b),f.same (Same.setCells (.inl a) _ _ _),i⟩
def nM(V:Nat->Nat)(f n i:Nat):NJ:= .a ((if i<60 then V i else if i=60 then f else n:Nat):Int)
structure mq (w:NI) (rb:Nat) (Q:List Nat):Prop where
 ex:∃V f,f<60/\Q.length<=60/\w.rowIs rb 197 62 (nM V f Q.length)/\∀i,i<Q.length->V ((f+i) % 60)=Q.getD i 0
theorem mq.block{a:Nat}{Q:List Nat}(h:mq w a Q)(k:w'.heap[a]? =w.heap[a]?):mq w' a Q:=by
 obtain⟨V,f,b,d,⟨c,e,i⟩,j⟩:=h;exact⟨V,f,b,d,⟨c,k.trans e,i⟩,j⟩
variable {b n : Nat} {F : Nat -> NJ} {t : TypeId}
theorem pK{G:Nat->NJ}(h:w.rowIs b t n F)(i:Nat)(v:NJ)(d:∀p,p<n->G p=if p=i then v else F p):(w.setCell ⟨b,i,none⟩ v).rowIs b t n G:=by
 obtain⟨c,e,f,j⟩:=World.rowIs.set h i v;refine⟨c,e,f,λp a=>?_⟩;rw[j p a,d p a]
theorem mG(h:w.rowIs b t n F)(k:K_ w w'):w'.rowIs b t n F:=by
 obtain⟨c,a,e⟩:=h;exact⟨c,(k.block b (aN a)).trans a,e⟩
theorem EZ(w:NI)(a:Nat)(Q:List Nat)(p:Nat)(x:mq w a Q)(F:Q.length<60):
  Calls prog 138 #[.pointer (some ⟨a,0,none⟩),.int .i64 (p:Int)] w fun e w'=>e= .returned (.tuple #[])/\mq w' a (Q++ [p])/\But (fun b=>b=a) w w':=by
 obtain⟨V,f,H,hn,c,y⟩:=x.ex;obtain⟨n,r⟩:=aj Q.length;rw[<-r] at c F;obtain⟨k,z⟩:=aj ((f+n) % 60);have I:k<60:=by omega
 have J:w.cell? ⟨a,60,none⟩=some (.int .i64 (f:Int)):=by rw[c.cell (by omega)];rfl
 have A:w.cell? ⟨a,61,none⟩=some (.int .i64 (n:Int)):=by rw[c.cell (by omega)];rfl
 have K:((f:Int)+ (n:Int)).tmod 60= (k:Int):=by rw[Int.tmod_eq_emod_of_nonneg (by omega)];omega
 have s:=fun i=>c.frozen i
 have L:=s k;have B:=s 61;have a1:(k:Int)<60:=by omega
 have M:=c.cell (show k<62 by omega);have t:=pK c k (.int .i64 (p:Int)) (G:=nM (fun i=>if i=k then p else V i) f n) (fun i h=>by
  unfold nM;by_cases e:i=k
  ·subst e;simp[I]
  ·simp[e])
 obtain⟨d,j⟩:=aj (w.setCell ⟨a,k,none⟩ (.int .i64 (p:Int)));rw[<-j] at t;have C:But (fun b=>b=a) w d:=by rw[j];exact But.set (S:=fun b=>b=a) (But.ax (K_.refl w)) (p:=⟨a,k,none⟩) rfl _
 have⟨N,O⟩:=aH t C;have P:Hid (∀i,i<Q.length->V ((f+i) % 60)=Q.getD i 0):=y;have R:Hid (k= (f+n) % 60):=z;have v:Hid (n=Q.length):=r;clear c s t C y z r x;go_enter func138,ntmps138
 go_wp2
 go_region
 rw[<-j];have l:K_ d d.drew:=aV d;generalize T:d.drew=U at l⊢;clear j T J A L B M K;have m:=mG N.o l;have A:U.cell? ⟨a,61,none⟩=some (.int .i64 (n:Int)):=by rw[m.cell (by omega)];rfl
 have B:=m.frozen 61;have W:=Kz m;have X:=Kz (O.o.trans (But.ax l));clear m l;go_wp2
 go_end0
 refine⟨rfl,⟨fun i=>if i=k then p else V i,f,H,by rw[MU];simp;have:=v.o;omega, ?_,fun i h=>?_⟩,But.set (S:=fun b=>b=a) X.o (p:=⟨a,61,none⟩) rfl _⟩
 ·rw[MU];refine pK W.o 61 _ (fun i h=>?_);unfold nM;have q:=v.o;by_cases e:i=61
  ·subst e;simp[q]
  ·have Y:¬i<60->i=60:=by omega
   by_cases D:i<60
   ·simp[D,e]
   ·simp[Y D]
 ·rw[MU] at h;have q:=v.o;have Z:=R.o;by_cases e:i=Q.length
  ·subst e;simp only[<-q,<-Z,if_true,List.getD];rw[q];simp
  ·have E:i<Q.length:=by simp at h;omega
   have a0:(f+i) % 60≠k:=by omega
   simp only[Nu a0,P.o i E,List.getD,Ni E]
theorem IM(w:NI)(a:Nat)(Q:List Nat)(p:Nat)(x:mq w a (p :: Q)):
  Calls prog 139 #[.c a] w λe w'=>e= .returned (.a (p:Int))/\mq w' a Q/\But (λb=>b=a) w w':=by
 obtain⟨V,f,y,J,c,q⟩:=x.ex;obtain⟨n,j⟩:=aj Q.length;have z:V f=p:=by have:=q 0 E9;simpa[Nat.mod_eq_of_lt y] using this
 rw[MX,<-j] at c;rw[MX,<-j] at J;have X:(f:Int)<60:=E5;have A:Hid (∀u,w.rowIs a 197 62 (nM V f (n+1))->K_ w u->u.cell? ⟨a,60,none⟩=some (.a (f:Int))/\u.cell? ⟨a,f,none⟩=some (.a (p:Int))):=λu c k=>by
  have B:=mG c k;refine⟨by rw[B.cell E5];rfl, ?_⟩;rw[B.cell E5];unfold nM;rw[Nt y,z]
 obtain⟨r,C⟩:=A.o w c (K_.refl w);have D:=Kz c;have K:Hid (∀i,i<Q.length->V ((f+ (i+1)) % 60)=Q.getD i 0):=λi l=>by have:=q (i+1) F6;simpa using this
 have E:Hid (n=Q.length):=j;clear c q j x z A;go_enter func139,ntmps139
 go_wp2
 go_region
 have s:K_ w w.drew:=aV w;generalize L:w.drew=t at s⊢;clear L r C;have m:=mG D.o s;have r:t.cell? ⟨a,60,none⟩=some (.a (f:Int)):=by rw[m.cell E5];rfl
 obtain⟨k,F⟩:=aj ((f+1) % 60);have M:((f:Int)+1).tmod 60= (k:Int):=by rw[Int.tmod_eq_emod_of_nonneg E5];omega
 have N:=m.frozen 60;have⟨O,H⟩:=aH m F;clear m D F;go_upto_region 3 with fail
 have d:=pK O.o 60 (.a (k:Int)) (G:=nM V k (n+1)) (λi l=>by
  unfold nM;by_cases e:i=60
  .subst e;simp
  .by_cases h:i<60
   .simp[h,e]
   .simp[h,e])
 have v:But (λb=>b=a) w (t.setCell ⟨a,60,none⟩ (.a (k:Int))):=But.set (S:=λb=>b=a) (But.ax s) (p:=⟨a,60,none⟩) rfl _;generalize P:t.setCell ⟨a,60,none⟩ (.a (k:Int))=R at d v⊢;clear P r N M;have C:R.cell? ⟨a,61,none⟩=some (.a ((n+1:Nat):Int)):=by rw[d.cell E5];rfl
 have Y:=d.frozen 61;have Z:((n+1:Nat):Int)-1= (n:Int):=E5;have I:=pK d 61 (.a (n:Int)) (G:=nM V k n) (λi l=>by
  unfold nM;by_cases e:i=61
  .subst e;simp
  .have T:¬i<60->i=60:=E5;by_cases h:i<60
   .simp[h,e]
   .simp[T h])
 have U:=Kz I;have W:=Kz (But.set (S:=λb=>b=a) v (p:=⟨a,61,none⟩) rfl (.a (n:Int)));clear d I v;go_wp2
 go_ret
 refine⟨rfl,⟨V,k, ?_, ?_, ?_,λi l=>?_⟩,W.o⟩
 .rw[H.o];omega
 .have:=E.o;omega
 .rw[<-E.o];exact U.o
 .rw[<-K.o i l];have:=H.o
  congr 1
  omega
theorem BJ{P:Program}{id:Nat}{d:Array Oper}{Q:Exit->Act->NI->Prop}{a:Act}(J:Act->Act->NI->Prop)(h:(Code.region id d true).wp P (λx b u=>x= .normal/\J a b u) a w)(i:∀b u,J a b u->Q .normal b u):(Code.region id d true).wp P Q a w:=
 wp_mono h λe b u c=>by
  obtain⟨rfl,c⟩:=c;exact i b u c
def jv(n:Nat):NJ:= .a (n:Int)
theorem gB(h:w.rowIs b t n F):bn w b t:=by
 obtain⟨c,d,_⟩:=h;exact⟨c,_,d⟩
theorem f_(h:w.rowIs b t n F)(k:w'.heap[b]? =w.heap[b]?):w'.rowIs b t n F:=by
 obtain⟨c,d,e⟩:=h;exact⟨c,k.trans d,e⟩
theorem fD(h:w.rowIs b t n F):b<w.heap.size:=by
 obtain⟨d,c,_⟩:=h;exact aN c
theorem Gf{G:Nat->NJ}(h:w.rowIs b t n F)(e:∀p,p<n->G p=F p):w.rowIs b t n G:=by
 obtain⟨c,d,f,i⟩:=h;exact⟨c,d,f,λp a=>by rw[i p a,e p a]⟩
def sS(w:NI)(a:NH)(l:List Nat):Prop:=∀i,i<l.length->∃b o,a=some ⟨b,o,none⟩/\b<w.heap.size/\w.cell? ⟨b,o+i,none⟩=some (.a ((l.getD i 0:Nat):Int))
theorem sS.kept{l:List Nat}(h:sS w a l)(k:K_ w w'):sS w' a l:=λi c=>by
 obtain⟨d,o,e,b,f⟩:=h i c;exact⟨d,o,e,Mf b k.size,(k.cell b).trans f⟩
theorem wH{base:Nat}{v:NJ}{l:List Nat}(h:w.ownsRow base t 1 v n (l.map jv))(f:n=l.length):∃a b,v= .slice a l.length b/\n<=b/\sS w a l:=by
 obtain⟨a,b,rfl⟩:=ay h;refine⟨a,b,by rw[f], ?_,λi d=>?_⟩
 .rcases h.2 with⟨e,c⟩|⟨_,_,_,e,_,_,c,_⟩
  .simp only[MW] at e;omega
  .simp only[MW] at e;omega
 .obtain⟨j,o,c,k,m⟩:=dY h i (by simpa using d);exact⟨j,o,c,k,by have:=m i (jv (l.getD i 0)) (by simp[List.getD,d]);exact this⟩
structure n_ (w:NI) (base n:Nat) (blk:Bool->Nat) (g:Bool->Nat->NJ) (L:Bool->Nat->List Nat):Prop where
 row:∀c,w.rowIs (blk c) 27 n (g c)
 ne:blk true≠blk false
 own:∀c p,w.ownsRow base 3 1 (g c p) (L c p).length ((L c p).map jv)
 sep:∀c p c' p',¬(c'=c/\p'=p)->∀x,(g c p).ownBlock=some x->(g c' p').ownBlock≠some x
section
variable {w w1 w' : NI} {base n : Nat} {blk : Bool -> Nat} {g : Bool -> Nat -> NJ} {L : Bool -> Nat -> List Nat}
theorem n_.but{S:Nat->Prop}(h:n_ w base n blk g L)(k:But S w w')(d:∀c,¬S (blk c))(h2:∀c p b,(g c p).ownBlock=some b->¬S b):n_ w' base n blk g L:=
 ⟨λc=>f_ (h.row c) (k.block _ (fD (h.row c)) (d c)),h.ne,λc p=>k.owns (h.own c p) (h2 c p),h.sep⟩
theorem n_.kept(h:n_ w base n blk g L)(k:K_ w w'):n_ w' base n blk g L:=h.but (S:=λ_=>False) (But.ax k) (λ_=>id) (λ_ _ _ _=>id)
theorem n_.put(h:n_ w base n blk g L)(b:Bool)(p:Nat){d:NJ}{x:Nat}(v:w1.ownsRow base 3 1 d ((L b p).length+1) ((L b p).map jv++ [jv x]))(D:w.grownBy w1 (g b p).ownBlock)(E:∀y,d.ownBlock=some y->(g b p).ownBlock=some y\/w.heap.size<=y):
  n_ (w1.setCell ⟨blk b,p,none⟩ d) base n blk (λc q=>if c=b/\q=p then d else g c q) (λc q=>if c=b/\q=p then L b p++ [x] else L c q)/\But (λy=>(g b p).ownBlock=some y\/y=blk b) w (w1.setCell ⟨blk b,p,none⟩ d):=by
 have s:But (λy=>(g b p).ownBlock=some y) w w1:=But.aI D (λy e=>e);have f:∀c,w1.rowIs (blk c) 27 n (g c):=λc=>f_ (h.row c) (s.block _ (fD (h.row c)) (λe=>aS (gB (h.row c)) (Y_ (h.own b p) e) E8 rfl))
 have k:But (λy=>y=blk b) w1 (w1.setCell ⟨blk b,p,none⟩ d):=But.set (S:=λy=>y=blk b) (But.ax (K_.refl w1)) (p:=⟨blk b,p,none⟩) rfl d;have z:∀c q,¬(c=b/\q=p)->w1.ownsRow base 3 1 (g c q) (L c q).length ((L c q).map jv):=λc q l=>s.owns (h.own c q) (λy e a=>h.sep c q b p (λA=>l ⟨A.1.symm,A.2.symm⟩) y e a)
 refine⟨⟨λc=>?_,h.ne,λc q=>?_,λc q m r l y i=>?_⟩, ?_⟩
 .by_cases e:c=b
  .subst e;exact pK (f c) p d (λq I=>E9)
  .refine Gf (f_ (f c) (k.block _ (fD (f c)) (λa=>?_))) (λq _=>by simp[e]);have j:=h.ne;cases c <;> cases b <;> first | exact e rfl | exact j a | exact j a.symm
 .by_cases e:c=b/\q=p
  .simp only[Nt e,MU,Ny,NB,List.map_cons,List.map_nil];exact k.owns v (λy t a=>aS (Y_ v t) (gB (f b)) E8 a)
  .simp only[Nu e];exact k.owns (z c q e) (λy t a=>aS (Y_ (z c q e) t) (gB (f b)) E8 a)
 .have B:∀c q,¬(c=b/\q=p)->∀y,d.ownBlock=some y->(g c q).ownBlock≠some y:=λc q F y G C=>by
   rcases E y G with j|j
   .exact h.sep b p c q F y j C
   .have:=((h.own c q).lt y C).2;omega
  by_cases e:c=b/\q=p
  .simp only[Nt e] at i;have a:¬(m=b/\r=p):=λa=>l ⟨a.1.trans e.1.symm,a.2.trans e.2.symm⟩
   simp only[Nu a];exact B m r a y i
  .simp only[Nu e] at i;by_cases a:m=b/\r=p
   .simp only[Nt a];exact λH=>B c q e y H i
   .simp only[Nu a];exact h.sep c q m r l y i
 .exact (s.mono (λy _ e=>Or.inl e)).trans (k.mono (λy _ e=>Or.inr e))
end
structure uA (w:NI) (na:NH) (nm:List NG) (nb mb:Nat) (need back:Nat->List Nat):Prop where
 names:Strs w na nm
 nbl:nb<w.heap.size
 mbl:mb<w.heap.size
 fwd:∀p,p<nm.length->∃a c,w.cell? ⟨nb,p,none⟩=some (.slice a (need p).length c)/\sS w a (need p)
 bwd:∀p,p<nm.length->∃a c,w.cell? ⟨mb,p,none⟩=some (.slice a (back p).length c)/\sS w a (back p)
theorem uA.kept{f:NH}{i:List NG}{nb j:Nat}{l back:Nat->List Nat}(h:uA w f i nb j l back)(k:K_ w w'):uA w' f i nb j l back:=
 ⟨h.names.kept k,Mf h.nbl k.size,Mf h.mbl k.size,λp b=>by
  obtain⟨a,c,d,e⟩:=h.fwd p b;exact⟨a,c,(k.cell h.nbl).trans d,e.kept k⟩,λp b=>by
  obtain⟨a,c,d,e⟩:=h.bwd p b;exact⟨a,c,(k.cell h.mbl).trans d,e.kept k⟩⟩
theorem n_.read{base:Nat}{b:Bool->Nat}{g:Bool->Nat->NJ}{L:Bool->Nat->List Nat}{f:NH}{d:List NG}(h:n_ w base d.length b g L)(j:Strs w f d):uA w f d (b true) (b false) (L true) (L false):=by
 have i:∀c p,p<d.length->∃a e,w.cell? ⟨b c,p,none⟩=some (.slice a (L c p).length e)/\sS w a (L c p):=λc p k=>by
  obtain⟨a,e,l,_,m⟩:=wH (h.own c p) rfl;exact⟨a,e,by rw[(h.row c).cell k,l],m⟩
 exact⟨j,fD (h.row true),fD (h.row false),i true,i false⟩
theorem Eb{l:List Nat}{p q:Nat->Bool}(h:∀x,q x=true->p x=true){s:Nat}(b:s∈l)(c:p s=true)(h2:q s=false):l.countP q+1<=l.countP p:=by
 induction l with
 | nil=>cases b
 | cons a l ih=>
  rw[List.countP_cons,List.countP_cons];rcases Na.1 b with rfl|b
  .have:=List.countP_mono_left (l:=l) (p:=q) (q:=p) (λx _=>h x);simp only[c,h2,if_true];simp;omega
  .have f:=ih b;have d:=h a;cases e:q a
   .simp;omega
   .simp[d e];omega
def unseen(A:Nat->Nat):Nat:=(List.range 60).countP (λp=>A p == 0)
theorem vB{A:Nat->Nat}{s v:Nat}(c:s<60)(d:A s=0)(b:v≠0):unseen (λr=>if r=s then v else A r)+1<=unseen A:=by
 refine Eb (s:=s) (λx a=>?_) (List.mem_range.2 c) (by simp[d]) (by simp[b]);by_cases e:x=s
 .rw[e] at a;simp[b] at a
 .simpa[e] using a
theorem Df{Q:List Nat}{s:Nat}(c:Q.Nodup)(d:∀p∈Q,p<60)(e:s<60)(f:s∉Q):Q.length<60:=by
 have h:(s :: Q).Nodup:=List.nodup_cons.2 ⟨f,c⟩;have:=List.Nodup.length_le_of_subset (l₂:=List.range 60) h (λx b=>by
  rcases Na.1 b with rfl|b
  .exact List.mem_range.2 e
  .exact List.mem_range.2 (d x b))
 simp at this;omega
def iY(w:NI)(ab:Nat)(A:Nat->Nat):Prop:=w.rowIs ab 157 60 (λi=>jv (A i))
variable {ab : Nat} {w : NI}
theorem iY.put{A:Nat->Nat}(h:iY w ab A)(i v:Nat):iY (w.setCell ⟨ab,i,none⟩ (.a (v:Int))) ab (λr=>if r=i then v else A r):=
 pK h i _ (λp _=>by by_cases e:p=i <;> simp[e,jv])
theorem mq.size{a:Nat}{Q:List Nat}(h:mq w a Q):w.cell? ⟨a,61,none⟩=some (.a (Q.length:Int)):=by
 obtain⟨V,f,_,_,d,_⟩:=h.ex;rw[d.cell E5]
 rfl
def nZ(A:Nat->Nat):Array NJ:=((List.range 60).map λi=>jv (A i)).toArray
structure Iy (R:Nat->Nat->Prop) (t:Nat) (A:Nat->Nat) (size:Nat):Prop where
 no:size=0->∀n,¬ll R t n
 yes:size≠0->ll R t size/\∀r n,n+1<=size->(A r=n+1↔Far R t n r)
def JY(R:Nat->Nat->Prop)(t:Nat)(w w':NI)(e:Ending):Prop:=∃(A:Nat->Nat) (size:Nat),e= .returned (.tuple #[.agg (nZ A),.a (size:Int)])/\Iy R t A size/\size<=60/\K_ w w'
theorem yZ{A:Nat->Nat}(h:iY w ab A):w.rangeAt ab 0 ((List.range 60).map λi=>jv (A i)):=λj v a=>by
 rw[List.getElem?_map] at a;by_cases b:j<60
 .rw[List.getElem?_range b] at a;simp only[Option.map_some,MV] at a;rw[MM,<-a];exact h.cell b
 .rw[List.getElem?_eq_none (by simpa using b)] at a;cases a
theorem Tryz.qP :(prog.info? 157).map (·.size)=some 60:=F4
theorem rG{P:Program}{e:Func}{R:Ending->NI->Prop}{a:Act}{p q:Tmp}{c:TypeId}{b:Nat}(cs:List NJ)(d:TypeDesc)(v:NJ)(h:e.results= #[.cell p c,.tmp q])
 (f:a.tmps.getD p undef= .c b) (i:w.rangeAt b 0 cs) (j:P.underlying c=some d) (k:d.isRow=true) (hi:(P.info? c).map (·.size)=some cs.length)
 (l:a.tmps.getD q undef=v) (m:a.defers=[]) (n:R (.returned (.tuple #[.agg cs.toArray,v])) w):bodyPost P e R .ret a w:=by
 refine bodyPost_ret ?_ m n;have r:a.tmps[p]?.getD undef= .c b:=by simpa using f
 have s:a.tmps[q]?.getD undef=v:=by simpa using l
 simp only[results,h];simp[r,s,asAddr,run_loadVar_mid w b 0 c cs d i j k hi]
theorem gT(A:Nat->Nat):(nZ A).size=60:=by simp[nZ]
theorem sU(A:Nat->Nat):(nZ A).all (·.oneCell')=true:=by simp[nZ,jv,Value.oneCell']
theorem z60 :List.toArray (List.replicate 60 (Value.int .i64 0))=Array.replicate 60 (Value.int .i64 0):=rfl
theorem z62 :List.toArray (List.replicate 62 (Value.int .i64 0))=Array.replicate 62 (Value.int .i64 0):=rfl
theorem yh(w:NI)(T:NH)(nc:Nat)(a:List NG)(nb L:Nat)(c1 back:Nat->List Nat)(E:NG->NG->Prop)(c2:Nat)(t:Nat)(ht:t<a.length)(hn:a.length<=60)(hM:c2<=60000000)(hV:uA w T a nb L c1 back)(hR:Cz E a c2 c1 back):
  Calls prog 91 #[.agg #[.slice T a.length nc,.slice (some ⟨nb,0,none⟩) a.length a.length,.slice (some ⟨L,0,none⟩) a.length a.length],.int .i64 (t:Int)] w fun e w'=>JY (dG E a) t w w' e:=by
 go_enter func91,ntmps91
 go_upto_region 1 with fail
 rw (transparency:= .default) [z60]
 go_step3
 go_upto_region 4 with fail
 rw (transparency:= .default) [z60,z62];obtain⟨f,J⟩:=aj (w.alloc (.cells #[.slice T a.length nc,.slice (some ⟨nb,0,none⟩) a.length a.length,.slice (some ⟨L,0,none⟩) a.length a.length] 93));have k1:K_ w f:=by rw[J];exact ah _ _
 have s2:f.cell? ⟨w.heap.size,2,none⟩=some (.slice (some ⟨L,0,none⟩) a.length a.length):=by rw[J];exact X_ w #[.slice T a.length nc,.slice (some ⟨nb,0,none⟩) a.length a.length,.slice (some ⟨L,0,none⟩) a.length a.length] 93 2 _ rfl
 have z1:w.heap.size<f.heap.size:=by rw[J];simp
 have c3:w.heap.size+1=f.heap.size:=by rw[J];simp
 obtain⟨d,M⟩:=aj (f.alloc (.cells (Array.replicate 60 (.int .i64 0)) 157));have k2:K_ f d:=by rw[M];exact ah _ _
 have a3:Hid (aD d f.heap.size 157 60):=by have h:=aD.made f (Array.replicate 60 (.int .i64 0)) 157;rw[Array.size_replicate] at h;rw[M];exact h
 have e9:f.heap.size+1=d.heap.size:=by rw[M];simp
 obtain⟨z,N⟩:=aj (d.alloc (.cells (Array.replicate 60 (.int .i64 0)) 157));have k3:K_ d z:=by rw[N];exact ah _ _
 have a4:iY z d.heap.size (fun _=>0):=by
  have h:=World.rowIs_alloc d (Array.replicate 60 (.int .i64 0)) 157 (fun _=>jv 0) (fun i B=>by simp at B;simp[jv,B]);rw[Array.size_replicate] at h;rw[N];exact h
 have f0:d.heap.size+1=z.heap.size:=by rw[N];simp
 obtain⟨C,U⟩:=aj (z.alloc (.cells (Array.replicate 62 (.int .i64 0)) 197));have k4:K_ z C:=by rw[U];exact ah _ _
 have r4:mq C z.heap.size []:=by
  refine⟨fun _=>0,0,by omega,by simp, ?_,fun i B=>aO B⟩;have h:=World.rowIs_alloc z (Array.replicate 62 (.int .i64 0)) 197 (nM (fun _=>0) 0 0) (fun i B=>by simp at B;simp[nM,B]);rw[Array.size_replicate] at h;rw[U];exact h
 rw[<-J,<-M,<-N,<-U];obtain⟨c,c4⟩:=aj d.heap.size;obtain⟨j,c5⟩:=aj z.heap.size;have V:w.heap.size+1=f.heap.size:=c3;have c6:w.heap.size+1+1=c:=by omega
 have c7:w.heap.size+1+1+1=j:=by omega
 rw[c7,c6,V];rw[<-c4] at a4;rw[<-c5] at r4;have O:c≠j:=by omega
 have W:=Kz (mG a4 k4);have f1:=W.out.frozen t;have f2:=W.out.cell (show t<60 by omega);have h9:(t:Int)<60:=by omega
 have K4:=k3.trans k4;have c8:=Kz r4;have X:=Kz (iY.put W.out t 1);have a5:Hid (But (fun b=>b=c\/b=j) C (C.setCell ⟨c,t,none⟩ (.int .i64 (1:Int)))):=But.set (S:=fun b=>b=c\/b=j) (But.ax (K_.refl C)) (p:=⟨c,t,none⟩) (.inl rfl) _;have Y:=Kz (k1.trans k2);have f3:=Kz k2;have a6:=Kz (c8.o.block (w':=C.setCell ⟨c,t,none⟩ (.int .i64 (1:Int))) (Below.heap_setCell _ _ _ _ (fun e=>O (Eq.symm e))));have c9:Hid (d.heap.size<=c):=by show d.heap.size<=c;omega
 have Z:Hid (d.heap.size<=j):=by show d.heap.size<=j;omega
 have HZ:Hid (w.heap.size<d.heap.size/\f.heap.size<d.heap.size/\w.heap.size<f.heap.size):=⟨by omega,by omega,by omega⟩;have f4:=Kz ((f3.o.cell z1).trans s2);obtain⟨b4,a7⟩:=aj f.heap.size;rw[<-a7] at a3 HZ⊢;have i0:=Kz a7;clear J M N U V c6 c7 a4 r4 k3 k4 k1 k2 f0 e9 c3 c4 c5 z1 s2 a7;go_upto_region 5 with fail
 have a8:Hid (K_ d (C.setCell ⟨c,t,none⟩ (.int .i64 (1:Int)))):=a5.o.kept K4 (fun b e=>by rcases e with e | e <;> rw[e] <;> first | exact c9.o | exact Z.o);generalize f5:C.setCell ⟨c,t,none⟩ (.int .i64 (1:Int))=W5 at X a5 a6 a8⊢;clear f5 f1 f2 a5 c8 W K4;go_wp2_with fail
 refine (EZ W5 j [] t a6.o (by simp)).mono ?_;rintro e w6 ⟨rfl,d0,a9⟩;have d1:Hid (mq w6 j [t]):=d0;have d2:Hid (iY w6 c (fun r=>if r=t then 1 else (fun _=>0) r)):=f_ X.o (a9.block _ (fD X.o) (fun e=>O e));have d3:Hid (K_ d w6):=a9.kept a8.o (fun b e=>by rw[e];exact Z.o);have d4:Hid (Bfs (dG E a) t (fun r=>if r=t then 1 else (fun _=>0) r) [t]):=Bfs.start _ t;have d5:Hid (∀r,(fun r=>if r=t then 1 else (fun _=>0) r) r+unseen (fun r=>if r=t then 1 else (fun _=>0) r)<=60):=fun r=>by
  have h1:=vB (A:=fun _=>0) (v:=1) (show t<60 by omega) rfl (by omega);have h2:unseen (fun _=>0)<=60:=by unfold unseen;have:=List.countP_le_length (l:=List.range 60) (p:=fun _=>(0:Nat) == 0);simp
  by_cases e:r=t
  ·simp only[e,if_true];omega
  ·simp only[Nu e];omega
 clear d0 a9 X a6 a8;go_wp2_with fail
 go_step3
 go_wp2
 go_loopg [8] (2*unseen (fun r=>if r=t then 1 else (fun _=>0) r)+1) (fun gg x8 wr=>∃(A:Nat->Nat) (Q:List Nat),x8= .int .i64 0/\Hid (2*unseen A+Q.length=gg)/\Hid (∀r,A r+unseen A<=60)/\Hid (iY wr c A)/\Hid (mq wr j Q)/\Hid (Bfs (dG E a) t A Q)/\Hid (∀p∈Q,p<a.length)/\Hid (K_ d wr))
 case atStart=>exact⟨_,[t],rfl,Kz rfl,d5,d2,d1,d4,Kz (fun p hp=>by rw[Mm] at hp;rw[hp];exact ht),d3⟩
 case round=>
  clear d2 d1 d4 d3 d5;obtain⟨A,Q,rfl,K,y,k,H,HB,D,n⟩:=hrel;have b0:=H.o.size;cases Q with
  | nil=>
   have i1:wr.cell? ⟨j,61,none⟩=some (.int .i64 0):=b0;clear b0;have HD:Hid (Iy (dG E a) t A 0):=⟨fun _ f6 F=>HB.o.none f6 F.1 F.2.1,fun h=>Nv rfl h⟩;go_upto_region 17 with fail
   have b1:=a3.o.kept n.o;have P:=Kz (b1.row.there (o:=0) (m:=60) (Me _));have b2:=Kz (yZ k.o);go_wp2_with (first | (refine wpList_load_mid rfl 157 (.tmp 6) rfl c 0 rfl _ _ b2.o underlying157 rfl Tryz.qP ?_) | (refine wpList_store_mid rfl 157 (.tmp 4) (.tmp 49) rfl b4 0 (nZ A) rfl rfl (by rw[gT];exact P.o) (by rw[gT];exact Tryz.qP) (sU A) ?_))
   try rw[Exit.noGoto_ret]
   refine rG ((List.range 60).map fun i=>jv (A i)) _ (.int .i64 ((0:Nat):Int)) results91 rfl (Mi wr b4 0 ((List.range 60).map fun i=>jv (A i)) (by rw[Nn,List.length_range];exact P.o)) underlying157 rfl (by rw[Nn,List.length_range];exact Tryz.qP) rfl rfl ⟨A,0,rfl,HD.o,by omega, ?_⟩;exact K_.setCells (Nat.le_of_lt HZ.o.2.2) _ _ (Y.o.trans n.o)
  | cons p Q=>
   have f7:(0:Int)<((p :: Q).length:Int):=by simp
   have f8:p<a.length:=D.o p (by simp);obtain⟨ba,bc,d6,d7⟩:=hV.bwd p f8;go_wp2_with fail
   refine (IM wr j Q p H.o).mono ?_;rintro e w1 ⟨rfl,d8,b3⟩;have d9:=Kz d8;have e0:Hid (iY w1 c A):=f_ k.o (b3.block _ (fD k.o) (fun e=>O e));have a0:Hid (K_ d w1):=b3.kept n.o (fun b e=>by rw[e];exact Z.o);have x:=Kz HB.o.take;have e1:Hid (∀q∈Q,q<a.length):=fun q R=>D.o q (MB _ R)
   have e2:Hid (2*unseen A+Q.length<gk):=by have h:=K.o;rw[MX] at h;show 2*unseen A+Q.length<gk;omega
   have f9:=Kz d7;have q2:=(a0.o.cell HZ.o.1).trans f4.o;have q3:=((Y.o.trans a0.o).cell hV.mbl).trans d6;have i2:(p:Int)<(a.length:Int):=by omega
   have i3:=(hR.len p).2;clear d8 b3 d7 d6 b0 f7 k H HB D n K;go_wp2_with fail
   clear q2 q3;go_loopw [8,26] (fun x8 b5 wr=>∃(i:Nat) (A:Nat->Nat) (Q:List Nat),x8= .int .i64 0/\b5= .int .i64 (i:Int)/\i<=(back p).length/\Hid (2*unseen A+Q.length<gk)/\Hid (∀r,A r+unseen A<=60)/\Hid (iY wr c A)/\Hid (mq wr j Q)/\Hid (nP (dG E a) t p ((back p).take i) A Q)/\Hid (∀q∈Q,q<a.length)/\Hid (K_ d wr)) (fun _ b5 _=>(back p).length-(intOf b5).toNat)
   case atStart=>exact⟨0,A,Q,rfl,rfl,Mg _,e2,y,e0,d9,x,e1,a0⟩
   case round=>
    clear e2 y e0 d9 x e1 a0;obtain⟨i,A,Q,rfl,rfl,B,K,y,k,H,x,D,n⟩:=hrel;by_cases a1:i<(back p).length;rotate_left
    ·have g0:Hid (Bfs (dG E a) t A Q):=x.o.ends (fun s F=>by rw[MO (by omega)];exact (hR.bwd s p).2 F);go_wp2
     go_roundg (2*unseen A+Q.length)
     case measure=>exact K.o
     case rel=>exact⟨A,Q,rfl,Kz rfl,y,k,H,g0,D,n⟩
    obtain⟨sb,so,V,i4,g1⟩:=(f9.o.kept (Y.o.trans n.o)) i a1;subst V;obtain⟨s,F⟩:=aj ((back p).getD i 0);rw[<-F] at g1;have b6:(back p)[i]=s:=by rw[F];simp[List.getD,a1]
    have HE:Hid (dG E a s p):=(hR.bwd s p).1 (by rw[<-b6];exact Mq a1);have g2:s<a.length:=HE.o.1;have e3:Hid ((back p).take (i+1)= (back p).take i++ [s]):=by show _=_;rw[Ml a1,b6]
    have i5:(i:Int)<((back p).length:Int):=by omega
    have cp:=k.o.cell (show p<60 by omega);have cs:=k.o.cell (show s<60 by omega);unfold jv at cp cs;have i6:(p:Int)<60:=by omega
    have i7:(s:Int)<60:=by omega
    clear F b6;by_cases G:s=t
    ·have g3:((s:Int) == (t:Int))=true:=by simp[G]
     have b7:=Kz (x.o.found (by have h:=HE.o;rw[G] at h;exact h));have e4:=Kz x.o.pos;have HD:Hid (Iy (dG E a) t A (A p)):=⟨fun h=>Nv h e4.o,fun _=>⟨⟨by have:=e4.o;omega,b7.o.1,b7.o.2.1⟩,b7.o.2.2⟩⟩;have e5:A p<=60:=by have:=y.o p;omega
     clear G cs;go_upto_region 17 with fail
     have b1:=a3.o.kept n.o;have P:=Kz (b1.row.there (o:=0) (m:=60) (Me _));have b2:=Kz (yZ k.o);go_wp2_with (first | (refine wpList_load_mid rfl 157 (.tmp 6) rfl c 0 rfl _ _ b2.o underlying157 rfl Tryz.qP ?_) | (refine wpList_store_mid rfl 157 (.tmp 4) (.tmp 49) rfl b4 0 (nZ A) rfl rfl (by rw[gT];exact P.o) (by rw[gT];exact Tryz.qP) (sU A) ?_))
     try rw[Exit.noGoto_ret]
     refine rG ((List.range 60).map fun i=>jv (A i)) _ (.int .i64 ((A p:Nat):Int)) results91 rfl (Mi wr b4 0 ((List.range 60).map fun i=>jv (A i)) (by rw[Nn,List.length_range];exact P.o)) underlying157 rfl (by rw[Nn,List.length_range];exact Tryz.qP) rfl rfl ⟨A,A p,rfl,HD.o,e5, ?_⟩;exact K_.setCells (Nat.le_of_lt HZ.o.2.2) _ _ (Y.o.trans n.o)
    have g3:((s:Int) == (t:Int))=false:=by simp;omega
    by_cases I:A s=0;rotate_left
    ·have g4:((A s:Int) == 0)=false:=by simp;omega
     have g5:=Kz (x.o.old I G);clear I G cp;go_wp2
     go_roundw
     case rel=>exact⟨i+1,A,Q,rfl,by go_num,by omega,K,y,k,H,Kz (by rw[e3.o];exact g5.o),D,n⟩
     case measure=>simp[intOf];omega
    have g4:((A s:Int) == 0)=true:=by simp[I]
    have g6:=Kz (x.o.new HE.o I G);have g7:Q.length<60:=Df x.o.nd (fun q R=>Mf (D.o q R) hn) (by omega) (fun h=>x.o.q s h I);have e6:=Kz (vB (v:=A p+1) (show s<60 by omega) I (by omega));have e5:A p<=60:=by have:=y.o p;omega
    have fs:=k.o.frozen s;have a2:=Kz (iY.put k.o s (A p+1));have e7:((A p:Int)+1)= ((A p+1:Nat):Int):=by omega
    have b8:Hid (K_ d (wr.setCell ⟨c,s,none⟩ (.int .i64 ((A p+1:Nat):Int)))):=(But.set (S:=fun b=>b=c) (But.ax (K_.refl wr)) (p:=⟨c,s,none⟩) rfl _).kept n.o (fun b e=>by rw[e];exact c9.o);have b9:=Kz (H.o.block (w':=wr.setCell ⟨c,s,none⟩ (.int .i64 ((A p+1:Nat):Int))) (Below.heap_setCell _ _ _ _ (fun e=>O (Eq.symm e))));have i8:Hid (s≠t):=G;have g8:=Kz e7;clear G I e7;go_upto_region 15 with fail
    rw[g8.o];generalize g9:wr.setCell ⟨c,s,none⟩ (.int .i64 ((A p+1:Nat):Int))=w7 at a2 b8 b9⊢;clear g9 fs cp cs;go_wp2_with fail
    refine (EZ w7 j Q s b9.o g7).mono ?_;rintro e w8 ⟨rfl,e8,c0⟩;have h0:=Kz e8;have h4:Hid (iY w8 c (fun r=>if r=s then A p+1 else A r)):=f_ a2.o (c0.block _ (fD a2.o) (fun e=>O e));have h5:Hid (K_ d w8):=c0.kept b8.o (fun b e=>by rw[e];exact Z.o);have h6:Hid (2*unseen (fun r=>if r=s then A p+1 else A r)+ (Q++ [s]).length<gk):=by
     have h1:=e6.o;have h2:=K.o;rw[MU];simp only[MX,List.length_nil];show _<_;omega
    have h7:Hid (∀r,(fun r=>if r=s then A p+1 else A r) r+unseen (fun r=>if r=s then A p+1 else A r)<=60):=fun r=>by
     have h1:=e6.o;have h2:=y.o r;have h3:=y.o p;by_cases e:r=s
     ·simp only[e,if_true];omega
     ·simp only[Nu e];omega
    have h8:Hid (∀q∈Q++ [s],q<a.length):=fun q R=>by
     rcases Mo.1 R with h|h
     ·exact D.o q h
     ·rw[Mm] at h;rw[h];exact g2
    clear e8 c0 a2 b8 b9;go_wp2
    go_roundw
    case rel=>exact⟨i+1,_,_,rfl,by go_num,by omega,h6,h7,h4,h0,Kz (by rw[e3.o];exact g6.o),h8,h5⟩
    case measure=>simp[intOf];omega
structure AgM (w0 wr:NI) (rb zb ab:Nat) (cost:Int) (sa:NH) (sn sc:Nat) (r:Q_) (xa:NH) (xc:Nat) (qv:NJ) (L:List NG):Prop where
 kw:K_ w0 wr
 box:jM wr rb r xa xc
 res:aD wr zb 40 7
 act:aD wr ab 73 2
 a0:wr.cell? ⟨ab,0,none⟩=some (.a cost)
 a1:wr.cell? ⟨ab,1,none⟩=some (.slice sa sn sc)
 rl:w0.heap.size<=rb
 zl:w0.heap.size<=zb
 al:w0.heap.size<=ab
 rz:rb≠zb
 txt:wr.ownsRow w0.heap.size 9 1 (.slice xa r.texts.length xc) r.texts.length (r.texts.map Value.string)
 ask:wr.ownsRow w0.heap.size 9 1 qv L.length (L.map Value.string)
 sep:∀x,(Value.slice xa r.texts.length xc).ownBlock=some x->qv.ownBlock≠some x
section
variable {w0 wr w' : NI} {rb zb ab : Nat} {cost : Int} {sa : NH} {sn sc : Nat} {r r' : Q_} {xa xa' : NH} {xc xc' : Nat} {qv qv' : NJ} {L : List NG}
theorem AgM.kept(h:AgM w0 wr rb zb ab cost sa sn sc r xa xc qv L)(k:K_ wr w'):AgM w0 w' rb zb ab cost sa sn sc r xa xc qv L:=
 ⟨h.kw.trans k,h.box.kept k,h.res.kept k,h.act.kept k,(k.cell h.act.lt).trans h.a0,(k.cell h.act.lt).trans h.a1,h.rl,h.zl,h.al,h.rz,ak h.txt k,ak h.ask k,h.sep⟩
theorem AgM.ar(h:AgM w0 wr rb zb ab cost sa sn sc r xa xc qv L):ab≠rb:=aS h.act.type h.box.row.type E8
theorem AgM.put(h:AgM w0 wr rb zb ab cost sa sn sc r xa xc qv L){o:Nat}{v:NJ}(f:o<7)(e:r'.cells xa xc= (r.cells xa xc).set o v)(c:r'.texts=r.texts):AgM w0 (wr.setCell ⟨rb,o,none⟩ v) rb zb ab cost sa sn sc r' xa xc qv L:=by
 have a:But (λb=>b=rb) wr (wr.setCell ⟨rb,o,none⟩ v):=But.set (S:=λb=>b=rb) (But.ax (K_.refl _)) (p:=⟨rb,o,none⟩) rfl v;have d:∀{b:Nat},bn wr b 9->¬b=rb:=λi e=>aS i h.box.row.type E8 e
 refine⟨Below.setCell h.kw (p:=⟨rb,o,none⟩) h.rl v,h.box.put f e,a.row h.res (λe=>h.rz e.symm),a.row h.act h.ar,(a.cell h.act.lt h.ar).trans h.a0,(a.cell h.act.lt h.ar).trans h.a1,h.rl,h.zl,h.al,h.rz, ?_,a.owns h.ask (λb e=>d (Y_ h.ask e)),by rw[c];exact h.sep⟩;rw[c];exact a.owns h.txt (λb e=>d (Y_ h.txt e))
theorem AgM.texts(h:AgM w0 wr rb zb ab cost sa sn sc r xa xc qv L){w1:NI}{l:List NG}(m:w1.ownsRow w0.heap.size 9 1 (.slice xa' (r.texts.length+l.length) xc') (r.texts.length+l.length) (r.texts.map Value.string++l.map Value.string))(v:wr.grownBy w1 (Value.slice xa r.texts.length xc).ownBlock)(w:∀g,(Value.slice xa' (r.texts.length+l.length) xc').ownBlock=some g->(Value.slice xa r.texts.length xc).ownBlock=some g\/wr.heap.size<=g):
  AgM w0 (w1.setCell ⟨rb,6,none⟩ (.slice xa' (r.texts.length+l.length) xc')) rb zb ab cost sa sn sc {r with texts:=r.texts++l} xa' xc' qv L:=by
 have a:But (λb=>(Value.slice xa r.texts.length xc).ownBlock=some b) wr w1:=But.aI v (λb e=>e);have c:∀{b:Nat} {u:TypeId},bn wr b u->u≠9->¬(Value.slice xa r.texts.length xc).ownBlock=some b:=λf y e=>aS f (Y_ h.txt e) y rfl
 have i:=a.row h.box.row (c h.box.row.type E8);have z:w1.rangeAt rb 0 (r.cells xa xc):=a.range h.box.row (c h.box.row.type E8) h.box.rng;have A:=a.row h.res (c h.res.type E8);have j:=a.row h.act (c h.act.type E8);have B:=(a.cell h.act.lt (c h.act.type E8) (o:=0)).trans h.a0;have C:=(a.cell h.act.lt (c h.act.type E8) (o:=1)).trans h.a1;have n:=a.owns h.ask (λb e k=>h.sep b k e);have D:K_ w0 w1:=a.kept h.kw (λb e=>(h.txt.lt b e).1);have d:But (λb=>b=rb) w1 (w1.setCell ⟨rb,6,none⟩ (.slice xa' (r.texts.length+l.length) xc')):=But.set (S:=λb=>b=rb) (But.ax (K_.refl _)) (p:=⟨rb,6,none⟩) rfl _;have q:∀{b:Nat},bn w1 b 9->¬b=rb:=λf e=>aS f i.type E8 e
 have s:(r.texts++l).length=r.texts.length+l.length:=MU;refine⟨Below.setCell D (p:=⟨rb,6,none⟩) h.rl _,⟨i.set _, ?_⟩,d.row A (λe=>h.rz e.symm),d.row j h.ar,(d.cell j.lt h.ar).trans B,(d.cell j.lt h.ar).trans C,h.rl,h.zl,h.al,h.rz, ?_,d.owns n (λb e=>q (Y_ n e)),λx E t=>?_⟩
 .have k:Q_.cells {r with texts:=r.texts++l} xa' xc'= (r.cells xa xc).set 6 (.slice xa' (r.texts.length+l.length) xc'):=by
   unfold Q_.cells;simp
  rw[k];exact mJ z i.row E5 _
 .show World.ownsRow _ _ _ _ (.slice xa' (r.texts++l).length xc') (r.texts++l).length ((r.texts++l).map Value.string);rw[s,Ny];exact d.owns m (λb e=>q (Y_ m e))
 .have F:(Value.slice xa' (r.texts.length+l.length) xc').ownBlock=some x:=by rw[<-s];exact E
  rcases w x F with g|g
  .exact h.sep x g t
  .have:=(h.ask.lt x t).2;omega
theorem AgM.asks(h:AgM w0 wr rb zb ab cost sa sn sc r xa xc qv L){w1:NI}{l:List NG}(j:w1.ownsRow w0.heap.size 9 1 qv' (L.length+l.length) (L.map Value.string++l.map Value.string))(k:wr.grownBy w1 qv.ownBlock)(m:∀g,qv'.ownBlock=some g->qv.ownBlock=some g\/wr.heap.size<=g):
  AgM w0 w1 rb zb ab cost sa sn sc r xa xc qv' (L++l):=by
 have a:But (λb=>qv.ownBlock=some b) wr w1:=But.aI k (λb e=>e);have c:∀{b:Nat} {u:TypeId},bn wr b u->u≠9->¬qv.ownBlock=some b:=λn p e=>aS n (Y_ h.ask e) p rfl
 have d:=c h.act.type E8;have f:=c h.box.row.type E8;refine⟨a.kept h.kw (λb e=>(h.ask.lt b e).1),⟨a.row h.box.row f,a.range h.box.row f h.box.rng⟩,a.row h.res (c h.res.type E8),a.row h.act d,(a.cell h.act.lt d).trans h.a0,(a.cell h.act.lt d).trans h.a1,h.rl,h.zl,h.al,h.rz,a.owns h.txt (λb e q=>h.sep b e q), ?_,λx i s=>?_⟩
 .rw[MU,Ny];exact j
 .rcases m x s with g|g
  .exact h.sep x i g
  .have:=(h.txt.lt x i).2;omega
end
def zm(W:dA)(σ:Env)(name:NG)(w':NI)(e:Ending):Prop:=
 ∃(k:Nat) (xa:NH) (xc:Nat) (qa:NH) (qc:Nat),e= .returned (.tuple #[.agg ((aJ W σ name k).1.cells xa xc).toArray,.slice qa (aJ W σ name k).2.length qc])/\(∀j,j<k->aT W σ (aJ W σ name j).1)/\¬aT W σ (aJ W σ name k).1/\(eU w' 9 xa (aJ W σ name k).1.texts/\(xa=none->xc=0)/\eU w' 9 qa (aJ W σ name k).2)/\Strs w' qa (aJ W σ name k).2
variable {σ : Env} {Kq : List Qz}
theorem lI(a:bg (Kk Kq))(b:dm Kq σ){n:NG}(c:(Kk Kq n).isSome=true):∀{k:Nat},(∀j,j<k->aT (Kk Kq) σ (aJ (Kk Kq) σ n j).1)->(aJ (Kk Kq) σ n k).1.Good Kq
 | 0,_=>gL a c
 | k+1,h=>dP a b (lI a b c (λj d=>h j E5)) (h k E5)
theorem BI(d:bg (Kk Kq)){r:Q_}(k:dm Kq σ)(l:r.Good Kq)(f:aT (Kk Kq) σ r):(Xx (Kk Kq) σ r).2.length<=5:=by
 obtain⟨A,b,m,n⟩:=(dP d k l f).act;rw[di] at b;have p:=(ib (d _ _ b).1 m n).1;by_cases a:(Xx (Kk Kq) σ r).2=[]
 .rw[a];simp
 .have e:(Xx (Kk Kq) σ r).2= (stepOf A (Xx (Kk Kq) σ r).1.at').asks:=by
   unfold Xx at a⊢;rw[b] at a⊢;simp only at a⊢;have ar:∀q:Q_,(dZ A q).2= (stepOf A (dZ A q).1.at').asks:=λq=>by
    unfold dZ;simp only
    split <;> rfl
   by_cases c:r.Zq=0
   .rw[Nt c];exact ar _
   .rw[Nu c] at a⊢;rcases f.2 with e|⟨v,s,h,t⟩
    .exact Nv e c
    .rw[b] at h;cases h;rw[t] at a⊢;simp only at a⊢;by_cases i:r.Zq=20
     .rw[Nt i] at a;exact Nv rfl a
     .rw[Nu i] at a⊢;by_cases j:(eP (stepOf A r.at') s).over=true
      .rw[Nt j] at a;exact Nv rfl a
      .rw[Nu j];exact ar _
  rw[e];exact p
theorem qM(a:bg (Kk Kq))(b:dm Kq σ){n:NG}(c:(Kk Kq n).isSome=true):∀{k:Nat},(∀j,j<k->aT (Kk Kq) σ (aJ (Kk Kq) σ n j).1)->(aJ (Kk Kq) σ n k).2.length<=5*k
 | 0,_=>Me _
 | k+1,h=>by
  have e:=qM a b c (k:=k) (λj d=>h j E5);have f:=BI a b (lI a b c (λj d=>h j E5)) (h k E5);show ((aJ (Kk Kq) σ n k).2++ (Xx (Kk Kq) σ (aJ (Kk Kq) σ n k).1).2).length<=5*(k+1);rw[MU];omega
theorem AV(b:bg (Kk Kq))(c:dm Kq σ){n:NG}(a:(Kk Kq n).isSome=true){k:Nat}(h:∀j,j<k->aT (Kk Kq) σ (aJ (Kk Kq) σ n j).1):k<=21:=by
 cases k with
 | zero=>omega
 | succ k=>
  have e:=fG a (k:=k) (λj d=>h j E5) (h k E5).1;have f:=(lI b c a (k:=k) (λj d=>h j E5)).hi;omega
theorem BG{g:Nat}:∀(vs:List NJ) (o:Nat) {w u:NI},But (λb=>b=g) w u->But (λb=>b=g) w (u.setCells g o vs)
 | [],_,_,_,h=>h
 | v :: r,o,_,_,h=>by rw[World.setCells];exact BG r (o+1) (h.set (p:=⟨g,o,none⟩) rfl v)
theorem AgM.ends{W:dA}{d:NG}{m wr:NI}{v a:Nat}{cost:Int}{w:NH}{x y:Nat}{r:Q_}{xa:NH}{xc:Nat}{f:NH}{n i:Nat}{L:List NG}{k:Nat}{e:Ending}(h:AgM m wr v a ab cost w x y r xa xc (.slice f n i) L)(c:aJ W σ d k= (r,L))(z:∀j,j<k->aT W σ (aJ W σ d j).1)(A:¬aT W σ r)
 (B:e= .returned (.tuple #[.agg (r.cells xa xc).toArray,.slice f n i])):zm W σ d (wr.setCells a 0 (r.cells xa xc)) e/\K_ m (wr.setCells a 0 (r.cells xa xc)):=by
 have l:But (λb=>b=a) wr (wr.setCells a 0 (r.cells xa xc)):=BG _ _ (But.ax (K_.refl _));have p:∀{b:Nat},bn wr b 9->¬b=a:=λC e=>aS C h.res.type E8 e
 have q:=o_ (l.owns h.txt (λb e=>p (Y_ h.txt e)));have s:=l.owns h.ask (λb e=>p (Y_ h.ask e));obtain⟨F,G,t,D⟩:=bK s;simp only[MW] at t;obtain⟨rfl,rfl,_⟩:=t;have E:=o_ s;refine⟨⟨k,xa,xc,f,i, ?_,z, ?_, ?_, ?_⟩,l.kept h.kw (λb e=>by rw[e];exact h.zl)⟩
 .rw[c];exact B
 .rw[c];exact A
 .rw[c];exact⟨q.1,q.2.1,E.1⟩
 .rw[c];exact D
theorem AgM.start{wc:NI}{d:Nat}{cost:Int}{i:NH}{j k:Nat}(a:NG)(f:K_ w wc)(l:aD wc d 40 7)(h:aD wc ab 73 2)(n:wc.cell? ⟨ab,0,none⟩=some (.a cost))(p:wc.cell? ⟨ab,1,none⟩=some (.slice i j k))(q:w.heap.size<=d)(r:w.heap.size<=ab):
  AgM w ((wc.alloc (.cells #[.string a,.bool false,.bool false,.string ⟨#[]⟩,.a 0,.a 0,M0] 40)).alloc (.cells #[] 9)) wc.heap.size d ab cost i j k (Q_.fresh a) none 0 (.b (wc.heap.size+1) 0 0) []:=by
 have b:K_ wc (wc.alloc (.cells #[.string a,.bool false,.bool false,.string ⟨#[]⟩,.a 0,.a 0,M0] 40)):=ah _ _;have c:K_ (wc.alloc (.cells #[.string a,.bool false,.bool false,.string ⟨#[]⟩,.a 0,.a 0,M0] 40)) ((wc.alloc (.cells #[.string a,.bool false,.bool false,.string ⟨#[]⟩,.a 0,.a 0,M0] 40)).alloc (.cells #[] 9)):=ah _ _;have s:jM (wc.alloc (.cells #[.string a,.bool false,.bool false,.string ⟨#[]⟩,.a 0,.a 0,M0] 40)) wc.heap.size (Q_.fresh a) none 0:=⟨aD.made wc _ _,X_ wc _ _⟩;have m:=ML (base:=w.heap.size) (e:=9) (size:=1) (wc.alloc (.cells #[.string a,.bool false,.bool false,.string ⟨#[]⟩,.a 0,.a 0,M0] 40)) #[] 0 (Mh f.size b.size) (Mg _) rfl;rw[MS] at m;exact⟨f.trans (b.trans c),s.kept c,l.kept (b.trans c),h.kept (b.trans c),((b.trans c).cell h.lt).trans n,((b.trans c).cell h.lt).trans p,f.size,q,r,by have:=l.lt;omega,Nc _ _ _ _,m,λx t=>by cases t⟩
theorem GI(w:NI)(kb:Nat)(a:NH)(f5:Nat)(h:List Qz)(d:NH)(dc:Nat)(l:List Q_)(Q:NG)(j7:h.length<=1048576)(s2:l.length<=1048576)(h4:jc h)(j8:bg (Kk h))(n6:∀y∈h,y.Fits)(j9:dm h (Qq l))(h5:(Kk h Q).isSome=true)
  (n:gQ w kb a h.length f5 d l.length dc) (hN:bT w a h) (hS:cB w d l):
  Calls prog 85 #[.c kb,.string Q] w λe w'=>zm (Kk h) (Qq l) Q w' e/\K_ w w':=by
 obtain⟨z1,hA⟩:=MF.1 h5;obtain⟨c6,hk,k0,n7,rfl⟩:=gp hA;obtain⟨y,hy⟩:=aj (h.getD c6 Qz.zero);rw[<-hy] at hA k0;obtain⟨WB,h6⟩:=aj (w.alloc (.cells #[.string ⟨#[]⟩,.bool false,.bool false,.string ⟨#[]⟩,.a 0,.a 0,M0] 40));have kB:K_ w WB:=by rw[h6];exact ah _ _
 obtain⟨E,h7⟩:=aj w.heap.size;have n8:aD WB E 40 7:=by rw[h6,h7];exact aD.made w _ _
 have n9:Hid (w.heap.size<=E):=MI h7.symm;obtain⟨nb,nq,f,c7,h8,D,na,nc,rfl,k1⟩:=hN c6 hk;rw[<-hy] at D k1;have k2:nb<WB.heap.size:=Mf h8 kB.size;have o0:=(kB.cell h8).trans (D 1 _ rfl);have o1:=(kB.cell h8).trans (D 2 _ rfl);subst c7;have s3:=Kz n;have k3:=Kz (n.kept kB);have k4:=Kz (hN.kept kB);have⟨s4,s5,k5,o2,o3⟩:=iZ hN hS k1 kB n8;have⟨HY,k6⟩:=aH hy hA;have o4:=k3.o.web;have bz:=k3.o.row.lt;have e9:y∈h:=by rw[hy];simp[List.getD,hk]
 clear D k1 hy hA kB n8 n hN hS h8;go_enter func85,ntmps85
 go_upto_region 1 with fail
 rw[<-h6,<-h7];clear h6 h7;go_cut [6] from 14 to 27 (λs6 wx=>∃Z,s6= .c Z/\K_ WB wx/\WB.heap.size<=Z/\aD wx Z 73 2/\wx.cell? ⟨Z,0,none⟩=some (.a y.cost)/\wx.cell? ⟨Z,1,none⟩=some (.slice na y.steps.length nc))
 case first=>
  have c8:Hid (∀w',K_ WB w'->w'.cell? ⟨kb,0,none⟩=some (.slice (some ⟨nb,nq,none⟩) h.length f5)/\w'.cell? ⟨nb,nq+c6*3+1,none⟩=some (.a y.cost)/\w'.cell? ⟨nb,nq+c6*3+2,none⟩=some (.slice na y.steps.length nc)):=λw' K=>⟨(K.cell bz).trans o4,(K.cell k2).trans o0,(K.cell k2).trans o1⟩
  have z2:(c6:Int)<(h.length:Int):=E5;refine bC 15 c8.o λwd KD a2=>?_
  refine au 0 a2 ?_;refine au 4 a2 ?_;refine ae 8 a2 ?_;refine ae 9 a2 ?_;refine ik 10 14 (λK n=>?_) (λK n=>?_)
  .rw[Nt G5];go_simp
   go_at_call 37
   refine (fF wd (some ⟨nb,nq,none⟩) f5 h Q j7 (k4.o.kept KD)).mono ?_;rintro e w2 ⟨⟨q,rfl,hq⟩,h9⟩;have K2:=KD.trans h9;obtain rfl:q= (c6:Int):=by
    rcases hq with⟨k',_,e',_,a3,h2⟩|⟨_,a3⟩
    .rw[e',iI (by rw[<-HY.o];exact k0) n7 a3 h2]
    .rw[k6.o] at a3;cases a3
   clear hq;dsimp only;refine af n (λ_=>c8.o _ K2) ?_;clear n K;clear a2;have a2:=c8.o _ K2;refine ae 11 a2 ?_;refine ae 12 a2 ?_;refine ae 13 a2 ?_;refine ai 14 (λK n=>?_);go_simp
   have K3:K_ w2 (w2.alloc (.cells #[.a 0,M0] 73)):=ah _ _;refine af n (λ_=>c8.o _ (K2.trans K3)) ?_;clear n K;have b0:aD (w2.alloc (.cells #[.a 0,M0] 73)) w2.heap.size 73 2:=aD.made w2 _ _;have KE:=K2.trans K3;generalize s7:w2.alloc (.cells #[.a 0,M0] 73)=wE at b0 KE⊢;clear s7 K3;obtain⟨⟨_,v0⟩,f0⟩:=b0.row.at (i:=0) E5;obtain⟨⟨_,v1⟩,s8⟩:=b0.row.at (i:=1) E5;have vz:=b0.lt;refine ai 15 (λK n=>?_);go_simp
   refine af n (λR=>Nv rfl R) ?_;clear n K;refine aF ?_;go_wp2
   go_meet
   exact⟨w2.heap.size,rfl,Below.setCell (Below.setCell KE (p:=⟨w2.heap.size,0,none⟩) K2.size _) (p:=⟨w2.heap.size,1,none⟩) K2.size _,K2.size,(b0.set _).set _,(Xk E5 _).trans (aW b0.row E5 _),aW (b0.set _).row E5 _⟩
  .rw[Nt G5];go_simp
   have K3:K_ wd (wd.alloc (.cells #[.a 0,M0] 73)):=ah _ _;have k7:=KD.trans K3;refine af n (λ_=>c8.o _ k7) ?_;clear n K;refine aG 10 (λK n=>?_);go_simp
   go_at_call 37
   refine (fF (wd.alloc (.cells #[.a 0,M0] 73)) (some ⟨nb,nq,none⟩) f5 h Q j7 (k4.o.kept k7)).mono ?_;rintro e w2 ⟨⟨q,rfl,hq⟩,h9⟩;have K2:=k7.trans h9;obtain rfl:q= (c6:Int):=by
    rcases hq with⟨k',_,e',_,a3,h2⟩|⟨_,a3⟩
    .rw[e',iI (by rw[<-HY.o];exact k0) n7 a3 h2]
    .rw[k6.o] at a3;cases a3
   clear hq;dsimp only;refine af n (λ_=>c8.o _ K2) ?_;clear n K;clear a2;have a2:=c8.o _ K2;refine ae 11 a2 ?_;refine ae 12 a2 ?_;refine ae 13 a2 ?_;have b0:aD w2 wd.heap.size 73 2:=(aD.made wd #[.a 0,M0] 73).kept h9;obtain⟨⟨_,v0⟩,f0⟩:=b0.row.at (i:=0) E5;obtain⟨⟨_,v1⟩,s8⟩:=b0.row.at (i:=1) E5;have vz:=b0.lt;refine ai 15 (λK n=>?_);go_simp
   refine af n (λR=>Nv rfl R) ?_;clear n K;refine aF ?_;go_wp2
   go_meet
   exact⟨wd.heap.size,rfl,Below.setCell (Below.setCell K2 (p:=⟨wd.heap.size,0,none⟩) KD.size _) (p:=⟨wd.heap.size,1,none⟩) KD.size _,KD.size,(b0.set _).set _,(Xk E5 _).trans (aW b0.row E5 _),aW (b0.set _).row E5 _⟩
 case rest=>
  obtain⟨Z,rfl,Kx,o5,o6,c9,d0⟩:=hcut;have f6:=Kz (AgM.start Q (o2.o.trans Kx) (o3.o.kept Kx) o6 c9 d0 n9.o (Mh o2.o.size o5));clear o5 o6 c9 d0 o0 o1 o4 bz k2 k3 k4 o3 Kx n9;go_upto_region 3 with fail
  obtain⟨c,k8⟩:=aj wc.heap.size;have o7:(wc.alloc (.cells #[.string Q,.bool false,.bool false,.string ⟨#[]⟩,.a 0,.a 0,M0] 40)).heap.size=c+1:=by rw[k8];simp
  rw[<-k8] at f6⊢;have l0:=Kz o7;clear o7;generalize s9:wc.alloc (.cells #[.string Q,.bool false,.bool false,.string ⟨#[]⟩,.a 0,.a 0,M0] 40)=w1 at f6 l0⊢;clear s9 k8;go_wp2_with fail
  rw[l0.o];clear l0;generalize t8:w1.alloc (.cells #[] 9)=w2 at f6⊢;clear t8;go_loopg [8] 22 (λgg t9 wr=>∃(M:Nat) (V:NH) (X:Nat) (qa:NH) (qc:Nat),t9= .slice qa (aJ (Kk h) (Qq l) Q M).2.length qc/\M+gg=22/\Hid (∀a6,a6<M->aT (Kk h) (Qq l) (aJ (Kk h) (Qq l) Q a6).1)/\Hid (AgM w wr c E Z y.cost na y.steps.length nc (aJ (Kk h) (Qq l) Q M).1 V X (.slice qa (aJ (Kk h) (Qq l) Q M).2.length qc) (aJ (Kk h) (Qq l) Q M).2))
  case atStart=>exact⟨0,none,0,some ⟨c+1,0,none⟩,0,rfl,rfl,Kz (λa6 hi=>aO hi),f6⟩
  case round=>
   clear f6;obtain⟨M,V,X,qa,qc,rfl,z3,d1,S⟩:=hrel;have c2:=Kz (lI j8 j9 h5 d1.o);have v8:=qM j8 j9 h5 d1.o;have l1:=Kz (lh (W:=Kk h) (σ:=Qq l) (n:=Q) M);obtain⟨r,hr⟩:=aj ((aJ (Kk h) (Qq l) Q M).1);obtain⟨L,hL⟩:=aj ((aJ (Kk h) (Qq l) Q M).2);rw[<-hr,<-hL] at S;rw[<-hr] at c2 l1;rw[<-hL] at v8⊢;have d2:Hid (aJ (Kk h) (Qq l) Q M= (r,L)):=by show _=_;rw[hr,hL]
   have b9:Hid (Kk h r.name=some ⟨y.cost,y.steps⟩):=by show _=_;rw[l1.o];exact k6.o
   have i0:Hid (aJ (Kk h) (Qq l) Q (M+1)= ((Xx (Kk h) (Qq l) r).1,L++ (Xx (Kk h) (Qq l) r).2)):=by show _=_;unfold aJ;rw[d2.o]
   clear hr hL l1;obtain⟨t,j,v,x,k,z,A⟩:=S.o.box.all;have i:=S.o.box.row.lt;by_cases i1:r.over=true
   .have c3:=Kz i1;clear t j v x k z A i;have j:wr.cell? ⟨c,1,none⟩=some (.bool true):=by have R:=S.o.box.all.2.1;rw[c3.o] at R;exact R
    have i:=S.o.box.row.lt;clear i1;go_upto_region 31 with fail
    clear j i;obtain⟨f,D⟩:=aj (Q_.cells (r) V X);have N:f.length=7:=by rw[D];rfl
    have d4:Hid (f.toArray.all (·.oneCell')=true):=by show _=_;rw[D];exact all_oneCell_toArray (by simp[Q_.cells,Value.oneCell'])
    have d5:Hid (wr.rangeAt c 0 f):=by show World.rangeAt _ _ _ _;rw[D];exact S.o.box.rng
    have i:=S.o.box.row.lt;have d6:Hid ((prog.info? 40).map (·.size)=some f.toArray.size):=by show _=_;rw[Tryz.fE];simp[N]
    have b1:Hid ((prog.info? 40).map (·.size)=some f.length):=by show _=_;rw[Tryz.fE,N]
    have b2:Hid (wr.there E 0 f.toArray.size):=by show World.there _ _ _ _;simpa[N] using S.o.res.row.there (o:=0) (m:=7) (Me _)
    have⟨d7,l2⟩:=aH D N;clear D N;go_wp2_with (first | (refine wpList_load_mid rfl 40 _ rfl c 0 rfl f _ d5.o underlying40 rfl b1.o ?_) | (refine wpList_store_mid rfl 40 _ _ rfl E 0 f.toArray rfl rfl b2.o d6.o d4.o ?_;rw[List.toList_toArray]))
    have hR:=Mi wr E 0 f (by have:=b2.o;simpa using this);refine bu f _ _ results85 rfl hR underlying40 rfl b1.o rfl rfl ?_;have d8:=d7.o;subst d8;exact S.o.ends d2.o d1.o (λR=>by have a3:=R.1;rw[c3.o] at a3;cases a3) rfl
   have c3:Hid (r.over=false):=by cases R:r.over;rfl;exact Nv R i1
   rw[c3.o] at j;clear i1;have lo:=c2.o.lo;have v9:=c2.o.hi;have tl:=c2.o.tl;obtain⟨c9,d0⟩:0<=r.at'/\r.at' < y.steps.length:=by
    obtain⟨A2,o8,a3,h2⟩:=c2.o.act;rw[b9.o] at o8;cases o8;exact⟨a3,h2⟩
   have z4:M<=20:=by have R:=fG h5 d1.o (by rw[d2.o];exact c3.o);rw[d2.o] at R;dsimp only at R;omega
   go_upto_if 36 with fail
   go_cut [9,10,11,12] from 36 to 87 (λ_ _ _ _ wx=>∃(B:Q_) (b6:NH) (c0:Nat),Hid (AgM w wx c E Z y.cost na y.steps.length nc B b6 c0 (.slice qa L.length qc) L)/\Hid (Xx (Kk h) (Qq l) r=dZ ⟨y.cost,y.steps⟩ B)/\0<=B.at'/\B.at' < y.steps.length/\0<=B.Zq/\B.Zq<20/\B.texts.length<=200/\Hid (∀d9∈B.texts,d9.size<=200)/\Hid (aT (Kk h) (Qq l) r))
   case first=>
    by_cases hv:r.Zq=0
    .have w0:¬(0:Int)<r.Zq:=E5;have HV:=Kz hv;clear hv;go_wp2
     go_meet
     exact⟨r,V,X,S,Kz (by unfold Xx;rw[b9.o];simp[HV.o]),c9,d0,lo,E5,E5,Kz c2.o.ts,Kz ⟨c3.o,.inl HV.o⟩⟩
    .have z5:(0:Int)<r.Zq:=E5;obtain⟨ix,c4⟩:∃ix:Nat,r.at'= (ix:Int):=⟨r.at'.toNat,E5⟩;have f7:ix<y.steps.length:=E5;have w4:(ix:Int)<(y.steps.length:Int):=E5;obtain⟨tb,tq,w5,rfl,l3,T,I,J,O,P,rfl,e0,f8,_⟩:=(Steps.kept k5.o S.o.kw) ix f7;obtain⟨s,hs⟩:=aj (y.steps.getD ix Xq.zero);rw[<-hs] at T e0 f8;have t0:=T 0 _ rfl;have t1:=T 1 _ rfl;have t2:=T 2 _ rfl;have t3:=T 3 _ rfl;have t4:=T 4 _ rfl;have t5:=T 5 _ rfl;have t6:=T 6 _ rfl;have t7:=T 7 _ rfl;rw[M_] at t0;have f1:s∈y.steps:=by rw[hs];simp[List.getD,f7]
     have o9:=(h4 y e9 s f1).1;have p0:=(h4 y e9 s f1).2;have i2:=n6 y e9;have b7:Hid (stepOf ⟨y.cost,y.steps⟩ r.at'=s):=by show _=_;unfold stepOf;rw[c4,hs];rfl
     have p1:=S.o.a1;have pz:=S.o.act.lt;rw[c4] at k;have f9:=Kz e0;clear T e0 f8 hs;have z6:=Kz c4;clear c4;go_upto_region 7 with fail
     have kS:K_ wr (wr.alloc (.cells #[.slice I s.asks.length J,.a s.on,.slice O s.cases.length P,.a s.els,.a s.fall,.bool s.fin,.bool s.bad,.string s.give] 176)):=ah _ _;have f2:=Kz (S.o.kept kS);have l4:=Kz (f9.o.kept kS);have x0:(wr.alloc (.cells #[.slice I s.asks.length J,.a s.on,.slice O s.cases.length P,.a s.els,.a s.fall,.bool s.fin,.bool s.bad,.string s.give] 176)).rangeAt wr.heap.size 0 #[.slice I s.asks.length J,.a s.on,.slice O s.cases.length P,.a s.els,.a s.fall,.bool s.fin,.bool s.bad,.string s.give].toList:=X_ wr _ _;have v0:=X_ wr #[.slice I s.asks.length J,.a s.on,.slice O s.cases.length P,.a s.els,.a s.fall,.bool s.fin,.bool s.bad,.string s.give] 176 0 _ rfl;have v1:=X_ wr #[.slice I s.asks.length J,.a s.on,.slice O s.cases.length P,.a s.els,.a s.fall,.bool s.fin,.bool s.bad,.string s.give] 176 1 _ rfl;have v2:=X_ wr #[.slice I s.asks.length J,.a s.on,.slice O s.cases.length P,.a s.els,.a s.fall,.bool s.fin,.bool s.bad,.string s.give] 176 2 _ rfl;have v3:=X_ wr #[.slice I s.asks.length J,.a s.on,.slice O s.cases.length P,.a s.els,.a s.fall,.bool s.fin,.bool s.bad,.string s.give] 176 3 _ rfl;have v4:=X_ wr #[.slice I s.asks.length J,.a s.on,.slice O s.cases.length P,.a s.els,.a s.fall,.bool s.fin,.bool s.bad,.string s.give] 176 4 _ rfl;have v5:=X_ wr #[.slice I s.asks.length J,.a s.on,.slice O s.cases.length P,.a s.els,.a s.fall,.bool s.fin,.bool s.bad,.string s.give] 176 5 _ rfl;have v6:=X_ wr #[.slice I s.asks.length J,.a s.on,.slice O s.cases.length P,.a s.els,.a s.fall,.bool s.fin,.bool s.bad,.string s.give] 176 6 _ rfl;have v7:=X_ wr #[.slice I s.asks.length J,.a s.on,.slice O s.cases.length P,.a s.els,.a s.fall,.bool s.fin,.bool s.bad,.string s.give] 176 7 _ rfl;simp only[MM] at v0 v1 v2 v3 v4 v5 v6 v7;have vz:wr.heap.size<(wr.alloc (.cells #[.slice I s.asks.length J,.a s.on,.slice O s.cases.length P,.a s.els,.a s.fall,.bool s.fin,.bool s.bad,.string s.give] 176)).heap.size:=E9;obtain⟨sb,e1⟩:=aj wr.heap.size;rw[<-e1] at v0 v1 v2 v3 v4 v5 v6 v7 vz⊢;generalize C:wr.alloc (.cells #[.slice I s.asks.length J,.a s.on,.slice O s.cases.length P,.a s.els,.a s.fall,.bool s.fin,.bool s.bad,.string s.give] 176)=w1 at f2 l4 v0 v1 v2 v3 v4 v5 v6 v7 vz⊢;clear C x0 kS e1 t0 t1 t2 t3 t4 t5 t6 t7 p1 pz S f9 j l3;clear t v x k z A i;go_wp2_with fail
     refine (oC w1 kb (some ⟨nb,nq,none⟩) f5 h d dc l s I O J P j7 s2 o9 p0 (s3.o.kept f2.o.kw) (s4.o.kept f2.o.kw) (s5.o.kept f2.o.kw) l4.o).mono ?_;rintro e w3 ⟨⟨d3,z7,p2,ok,rfl,l5,l6⟩,l7⟩;have H:=Kz (f2.o.kept l7);clear v0 v1 v2 v3 v4 v5 v6 v7 vz f2 l4;have p3:r.Zq≠0:=hv;have g0:=Kz p3;clear p3;cases ok
     .have x1:=Kz (l6 rfl);clear l5 l6 l7;go_upto_region 9 with fail
      obtain⟨f,D⟩:=aj (Q_.cells (r) V X);have N:f.length=7:=by rw[D];rfl
      have d4:Hid (f.toArray.all (·.oneCell')=true):=by show _=_;rw[D];exact all_oneCell_toArray (by simp[Q_.cells,Value.oneCell'])
      have d5:Hid (w3.rangeAt c 0 f):=by show World.rangeAt _ _ _ _;rw[D];exact H.o.box.rng
      have i:=H.o.box.row.lt;have d6:Hid ((prog.info? 40).map (·.size)=some f.toArray.size):=by show _=_;rw[Tryz.fE];simp[N]
      have b1:Hid ((prog.info? 40).map (·.size)=some f.length):=by show _=_;rw[Tryz.fE,N]
      have b2:Hid (w3.there E 0 f.toArray.size):=by show World.there _ _ _ _;simpa[N] using H.o.res.row.there (o:=0) (m:=7) (Me _)
      have⟨d7,l2⟩:=aH D N;clear D N;go_wp2_with (first | (refine wpList_load_mid rfl 40 _ rfl c 0 rfl f _ d5.o underlying40 rfl b1.o ?_) | (refine wpList_store_mid rfl 40 _ _ rfl E 0 f.toArray rfl rfl b2.o d6.o d4.o ?_;rw[List.toList_toArray]))
      have hR:=Mi w3 E 0 f (by have:=b2.o;simpa using this);refine bu f _ _ results85 rfl hR underlying40 rfl b1.o rfl rfl ?_;have d8:=d7.o;subst d8;exact H.o.ends d2.o d1.o (λR=>by rcases R.2 with g | ⟨A2,a4,g1,g2⟩;exact g0.o g;rw[b9.o] at g1;cases g1;rw[b7.o,x1.o] at g2;cases g2) rfl
     .obtain⟨a4,p4,rfl,p5⟩:=l5 rfl;have⟨g3,l8⟩:=aH p4 p5;clear l5 l6 p4 p5 l7;have i3:Hid (aT (Kk h) (Qq l) r):=⟨c3.o,.inr ⟨_,a4,b9.o,by rw[b7.o];exact g3.o⟩⟩;have g4:Hid (∀a6,a6<M+1->aT (Kk h) (Qq l) (aJ (Kk h) (Qq l) Q a6).1):=λa6 hi=>by
       rcases Nat.lt_or_ge a6 M with g|g
       .exact d1.o a6 g
       .obtain rfl:a6=M:=E5;rw[d2.o];exact i3.o
      by_cases f3:r.Zq=20
      .have x2:(r.Zq == 20)=true:=by simp[f3]
       have g6:=Kz f3;clear f3;obtain⟨t,j,v,x,k,z,A⟩:=H.o.box.all;have i:=H.o.box.row.lt;go_upto_region 11 with fail
       clear t j v x k z A i;obtain⟨t,j,v,x,k,z,A⟩:=H.o.box.all;have i:=H.o.box.row.lt;obtain⟨_,g1⟩:=H.o.box.row.row.at (i:=1) E5;go_upto_region 12 with fail
       have b3:Hid (AgM w (w3.setCell ⟨c,1,none⟩ (.bool true)) c E Z y.cost (some ⟨tb,tq,none⟩) y.steps.length nc ({r with over:=true}) V X (.slice qa L.length qc) L):=H.o.put E5 rfl rfl;generalize C:w3.setCell ⟨c,1,none⟩ (.bool true)=p6 at b3  ⊢;clear C;clear t j v x k z A i;clear g1;obtain⟨t,j,v,x,k,z,A⟩:=b3.o.box.all;have i:=b3.o.box.row.lt;obtain⟨_,g2⟩:=b3.o.box.row.row.at (i:=2) E5;go_upto_region 13 with fail
       have b4:Hid (AgM w (p6.setCell ⟨c,2,none⟩ (.bool true)) c E Z y.cost (some ⟨tb,tq,none⟩) y.steps.length nc ({r with over:=true,fail:=true}) V X (.slice qa L.length qc) L):=b3.o.put E5 rfl rfl;generalize C:p6.setCell ⟨c,2,none⟩ (.bool true)=F at b4  ⊢;clear C;clear t j v x k z A i;clear g2;obtain⟨t,j,v,x,k,z,A⟩:=b4.o.box.all;have i:=b4.o.box.row.lt;obtain⟨_,i4⟩:=b4.o.box.row.row.at (i:=3) E5;go_upto_region 14 with fail
       have U:Hid (AgM w (F.setCell ⟨c,3,none⟩ (.string ⟨#[115,112,101,110,116]⟩)) c E Z y.cost (some ⟨tb,tq,none⟩) y.steps.length nc ({r with over:=true,fail:=true,text:=iJ}) V X (.slice qa L.length qc) L):=b4.o.put E5 rfl rfl;generalize C:F.setCell ⟨c,3,none⟩ (.string ⟨#[115,112,101,110,116]⟩)=w6 at U  ⊢;clear C;clear t j v x k z A i;clear i4;have c1:Hid (Xx (Kk h) (Qq l) r= ({r with over:=true,fail:=true,text:=iJ},[])):=by show _=_;unfold Xx;rw[b9.o];simp only;rw[Nu g0.o,b7.o,g3.o];simp[g6.o]
       obtain⟨f,D⟩:=aj (Q_.cells ({r with over:=true,fail:=true,text:=iJ}) V X);have N:f.length=7:=by rw[D];rfl
       have d4:Hid (f.toArray.all (·.oneCell')=true):=by show _=_;rw[D];exact all_oneCell_toArray (by simp[Q_.cells,Value.oneCell'])
       have d5:Hid (w6.rangeAt c 0 f):=by show World.rangeAt _ _ _ _;rw[D];exact U.o.box.rng
       have i:=U.o.box.row.lt;have d6:Hid ((prog.info? 40).map (·.size)=some f.toArray.size):=by show _=_;rw[Tryz.fE];simp[N]
       have b1:Hid ((prog.info? 40).map (·.size)=some f.length):=by show _=_;rw[Tryz.fE,N]
       have b2:Hid (w6.there E 0 f.toArray.size):=by show World.there _ _ _ _;simpa[N] using U.o.res.row.there (o:=0) (m:=7) (Me _)
       have⟨d7,l2⟩:=aH D N;clear D N;go_wp2_with (first | (refine wpList_load_mid rfl 40 _ rfl c 0 rfl f _ d5.o underlying40 rfl b1.o ?_) | (refine wpList_store_mid rfl 40 _ _ rfl E 0 f.toArray rfl rfl b2.o d6.o d4.o ?_;rw[List.toList_toArray]))
       have hR:=Mi w6 E 0 f (by have:=b2.o;simpa using this);refine bu f _ _ results85 rfl hR underlying40 rfl b1.o rfl rfl ?_;have d8:=d7.o;subst d8;exact U.o.ends (i0.o.trans (by rw[c1.o,List.append_nil])) g4.o (λR=>by have a3:=R.1;cases a3) rfl
      .have x2:(r.Zq == 20)=false:=by simpa using f3
       have g6:=Kz f3;clear f3;have l9:=(j8 _ _ b9.o).1;obtain⟨p7,m0⟩:=ib l9 c9 d0;rw[b7.o] at p7 m0;have p8:∀m1∈s.asks,m1.size<=20:=λm1 hn=>(m0 m1 hn).2.1
       obtain⟨m2,p9⟩:=nu j9 p8 g3.o;have z8:a4.length<=5:=by rw[m2.1];exact p7
       have HW:Hid (kH y.cost y.steps r.at' a4 (eP s a4)):= .inr ⟨⟨l9,⟨c9,d0⟩,c2.o.stp _ b9.o c3.o g0.o⟩,by have e:jC y.steps r.at'=s:=b7.o;rw[e];exact iT m2⟩;have q0:=Kz p9;clear p9 l9 m0 p8 m2;have q1:a4.length<=maxLen:=F5;have q2:∀m3∈a4,m3.text.size<=maxLen:=λm3 hc=>by have:=q0.o m3 hc;unfold maxLen;omega
       have x3:=H.o.a0;have p1:=H.o.a1;have x4:=H.o.act.lt;obtain⟨t,j,v,x,k,z,A⟩:=H.o.box.all;have i:=H.o.box.row.lt;go_wp2_with fail
       refine (rP _ y.cost r.at' (some ⟨tb,tq,none⟩) d3 nc p2 y.steps a4 i2.steps i2.each (Steps.kept k5.o H.o.kw) q1 q2 l8.o).mono ?_;rintro e F ⟨⟨G,rfl,hG⟩,i5⟩;have q3:G=eP s a4:=hG.unique HW.o;obtain⟨gc,go,gt,Y⟩:=G;have i6:=Kz q3;have q4:(bW.mk gc go gt Y).cells.toArray= #[.a gc,.bool go,.a gt,.string Y]:=rfl;rw[q4];clear q4 hG q3;have q5:K_ F (F.alloc (.cells #[.a gc,.bool go,.a gt,.string Y] 186)):=ah _ _;have x5:=i5.size;have K6:=i5.trans q5;have U:=Kz (H.o.kept K6);have c7:=X_ F #[.a gc,.bool go,.a gt,.string Y] 186 1 _ rfl;have f4:=X_ F #[.a gc,.bool go,.a gt,.string Y] 186 2 _ rfl;have e3:=X_ F #[.a gc,.bool go,.a gt,.string Y] 186 3 _ rfl;simp only[MM] at c7 f4 e3;have a5:F.heap.size<(F.alloc (.cells #[.a gc,.bool go,.a gt,.string Y] 186)).heap.size:=E9;have g7:F.heap.size≠c:=by have:=(H.o.kept i5).box.row.lt;omega
       have g8:=Kz (l8.o.kept K6);clear t j v x k z A i;clear x3 p1 x4 i5 q5 q1 q2 l8;cases go
       .go_upto_region 22 with fail
        generalize C:F.alloc (.cells #[.a gc,.bool false,.a gt,.string Y] 186)=w6 at U g8 c7 f4 e3 a5 K6⊢;clear C c7 e3 K6;have m4:=(HW.o.KG).1;rw[<-i6.o] at m4;have q6:gc=0:=by have h2:=xe s a4;rw[<-i6.o] at h2;exact h2
        obtain⟨q7,q8⟩:=m4 q6 rfl;dsimp only at q7 q8;clear m4 q6;have z9:r.texts.length<=100:=E5;have A0:=qH a4;obtain⟨ic,i7,i8,i9,j0⟩:=aU Tryz.eD;have m5:Hid (∀w',K_ w6 w'->w'.cell? ⟨c,6,none⟩=some (.slice V r.texts.length X)):=λw' K=>(U.o.kept K).box.all.2.2.2.2.2.2
        refine bC 6 m5.o λwd KD a2=>?_
        refine ae 0 a2 ?_;refine ae 1 a2 ?_;refine ae 2 a2 ?_;refine aG 3 (λK n=>?_);go_simp
        go_at_call 124
        refine (v_ wd d3 p2 a4 E5 (g8.o.kept KD)).mono ?_;rintro e w9 ⟨⟨x6,x7,rfl,q9⟩,k9⟩;have K9:=KD.trans k9;have r0:=Kz q9;have a7:=Kz (U.o.kept K9);clear k9 q9;dsimp only;refine af n (λ_=>m5.o _ K9) ?_;clear n K;refine ai 4 (λK n=>?_);have x8:w.heap.size<=w9.heap.size:=a7.o.kw.size;refine fe (.tmp 80) (.tmp 82) 26 rfl w.heap.size 9 ic _ 16 underlying26 i7 i8 i9 j0 rfl (.slice V r.texts.length X) r.texts.length (r.texts.map Value.string) rfl a7.o.txt (some ⟨x6,0,none⟩) x7 (aL a4) rfl r0.o F5 E5 x8 ?_;intro v2 b5 m6 m7 r1;obtain⟨j1,j2,rfl⟩:=ay m6;have g9:=Kz (a7.o.texts m6 m7 r1);have kg:But (λb=>(Value.slice V r.texts.length X).ownBlock=some b) w9 b5:=But.aI m7 (λb e=>e);have m8:¬(Value.slice V r.texts.length X).ownBlock=some c:=λe=>aS (Y_ a7.o.txt e) a7.o.box.row.type E8 rfl
        have m9:=kg.row a7.o.box.row m8;have n0:b5.cell? ⟨c,6,none⟩=some (.slice V r.texts.length X):=(kg.cell a7.o.box.row.lt m8).trans a7.o.box.all.2.2.2.2.2.2;have x9:¬(Value.slice V r.texts.length X).ownBlock=some F.heap.size:=λe=>by
         have a3:=(H.o.txt.lt _ e).2;have h2:w3.heap.size<=F.heap.size:=x5;omega
        have r2:b5.cell? ⟨F.heap.size,2,none⟩=some (.a gt):=(kg.cell (Mf a5 K9.size) x9).trans ((K9.cell a5).trans f4);have r3:F.heap.size<b5.heap.size:=Mf (Mf a5 K9.size) kg.size;refine af n (λ_=>n0) ?_;clear n K;clear m6 m7 r1 kg m8;refine ai 5 (λK n=>?_);go_simp
        refine af n (λ_=>n0) ?_;clear n K;obtain⟨_,y0⟩:=m9.row.at (i:=6) E5;have y1:=m9.lt;refine ai 6 (λK n=>?_);go_simp
        refine af n (λR=>Nv rfl R) ?_;clear n K;refine aF ?_;have y2:(b5.setCell ⟨c,6,none⟩ (.slice j1 (r.texts.length+ (aL a4).length) j2)).cell? ⟨F.heap.size,2,none⟩=some (.a gt):=by rw[Zj g7];exact r2
        have y3:F.heap.size<(b5.setCell ⟨c,6,none⟩ (.slice j1 (r.texts.length+ (aL a4).length) j2)).heap.size:=by rw[size_setCell];exact r3
        generalize C:b5.setCell ⟨c,6,none⟩ (.slice j1 (r.texts.length+ (aL a4).length) j2)=A1 at g9 y2 y3⊢;clear C n0 m9 y0 y1 f4 a5 r2 r3 a2 m5 KD K9 a7 r0 U g8;obtain⟨t,j,v,x,k,z,A⟩:=g9.o.box.all;have i:=g9.o.box.row.lt;obtain⟨_,A3⟩:=g9.o.box.row.row.at (i:=4) E5;go_wp2
        go_meet
        refine⟨{r with texts:=r.texts++aL a4,at':=gt},j1,j2,Kz (g9.o.put E5 rfl rfl),Kz (by unfold Xx;rw[b9.o];simp only;rw[Nu g0.o,b7.o,g3.o];simp only;rw[Nu g6.o,<-i6.o,Nu E9]),q7,q8,lo,(by show r.Zq<20;have:=g6.o;omega),(by show (r.texts++aL a4).length<=200;rw[MU];omega),Kz (λd9 ht=>?_),i3⟩;rcases Mo.1 ht with ht | ht
        .exact c2.o.ts d9 ht
        .obtain⟨y4,hx,rfl⟩:=ny ht;exact q0.o y4 hx
       .go_upto_region 17 with fail
        generalize C:F.alloc (.cells #[.a gc,.bool true,.a gt,.string Y] 186)=w6 at U g8 c7 f4 e3 a5 K6⊢;clear C c7 f4 g8 K6;obtain⟨t,j,v,x,k,z,A⟩:=U.o.box.all;have i:=U.o.box.row.lt;obtain⟨_,g5⟩:=U.o.box.row.row.at (i:=5) E5;go_upto_region 18 with fail
        have b8:Hid (AgM w (w6.setCell ⟨c,5,none⟩ (.a (r.Zq+1))) c E Z y.cost (some ⟨tb,tq,none⟩) y.steps.length nc ({r with Zq:=r.Zq+1}) V X (.slice qa L.length qc) L):=U.o.put E5 rfl rfl;have a8:(w6.setCell ⟨c,5,none⟩ (.a (r.Zq+1))).cell? ⟨F.heap.size,3,none⟩=some (.string Y):=by rw[Zj g7];exact e3
        have a9:F.heap.size<(w6.setCell ⟨c,5,none⟩ (.a (r.Zq+1))).heap.size:=by rw[size_setCell];exact a5
        generalize C:w6.setCell ⟨c,5,none⟩ (.a (r.Zq+1))=w7 at b8 a8 a9⊢;clear C;clear t j v x k z A i;clear g5;clear e3 a5;have e3:=a8;have a5:=a9;clear a8 a9;obtain⟨t,j,v,x,k,z,A⟩:=b8.o.box.all;have i:=b8.o.box.row.lt;obtain⟨_,g1⟩:=b8.o.box.row.row.at (i:=1) E5;go_upto_region 19 with fail
        have e2:Hid (AgM w (w7.setCell ⟨c,1,none⟩ (.bool true)) c E Z y.cost (some ⟨tb,tq,none⟩) y.steps.length nc ({r with Zq:=r.Zq+1,over:=true}) V X (.slice qa L.length qc) L):=b8.o.put E5 rfl rfl;have a8:(w7.setCell ⟨c,1,none⟩ (.bool true)).cell? ⟨F.heap.size,3,none⟩=some (.string Y):=by rw[Zj g7];exact e3
        have a9:F.heap.size<(w7.setCell ⟨c,1,none⟩ (.bool true)).heap.size:=by rw[size_setCell];exact a5
        generalize C:w7.setCell ⟨c,1,none⟩ (.bool true)=w8 at e2 a8 a9⊢;clear C;clear t j v x k z A i;clear g1;clear e3 a5;have e3:=a8;have a5:=a9;clear a8 a9;obtain⟨t,j,v,x,k,z,A⟩:=e2.o.box.all;have i:=e2.o.box.row.lt;obtain⟨_,g2⟩:=e2.o.box.row.row.at (i:=2) E5;go_upto_region 20 with fail
        have a7:Hid (AgM w (w8.setCell ⟨c,2,none⟩ (.bool true)) c E Z y.cost (some ⟨tb,tq,none⟩) y.steps.length nc ({r with Zq:=r.Zq+1,over:=true,fail:=true}) V X (.slice qa L.length qc) L):=e2.o.put E5 rfl rfl;have a8:(w8.setCell ⟨c,2,none⟩ (.bool true)).cell? ⟨F.heap.size,3,none⟩=some (.string Y):=by rw[Zj g7];exact e3
        have a9:F.heap.size<(w8.setCell ⟨c,2,none⟩ (.bool true)).heap.size:=by rw[size_setCell];exact a5
        generalize C:w8.setCell ⟨c,2,none⟩ (.bool true)=w9 at a7 a8 a9⊢;clear C;clear t j v x k z A i;clear g2;clear e3 a5;have e3:=a8;have a5:=a9;clear a8 a9;obtain⟨t,j,v,x,k,z,A⟩:=a7.o.box.all;have i:=a7.o.box.row.lt;obtain⟨_,i4⟩:=a7.o.box.row.row.at (i:=3) E5;go_upto_region 21 with fail
        have h0:Hid (AgM w (w9.setCell ⟨c,3,none⟩ (.string Y)) c E Z y.cost (some ⟨tb,tq,none⟩) y.steps.length nc ({r with Zq:=r.Zq+1,over:=true,fail:=true,text:=Y}) V X (.slice qa L.length qc) L):=a7.o.put E5 rfl rfl;have a8:(w9.setCell ⟨c,3,none⟩ (.string Y)).cell? ⟨F.heap.size,3,none⟩=some (.string Y):=by rw[Zj g7];exact e3
        have a9:F.heap.size<(w9.setCell ⟨c,3,none⟩ (.string Y)).heap.size:=by rw[size_setCell];exact a5
        generalize C:w9.setCell ⟨c,3,none⟩ (.string Y)=b5 at h0 a8 a9⊢;clear C;clear t j v x k z A i;clear i4;clear e3 a5;have e3:=a8;have a5:=a9;clear a8 a9;have c1:Hid (Xx (Kk h) (Qq l) r= ({r with Zq:=r.Zq+1,over:=true,fail:=true,text:=Y},[])):=by show _=_;unfold Xx;rw[b9.o];simp only;rw[Nu g0.o,b7.o,g3.o];simp only;rw[Nu g6.o,<-i6.o,Nt rfl]
        obtain⟨f,D⟩:=aj (Q_.cells ({r with Zq:=r.Zq+1,over:=true,fail:=true,text:=Y}) V X);have N:f.length=7:=by rw[D];rfl
        have d4:Hid (f.toArray.all (·.oneCell')=true):=by show _=_;rw[D];exact all_oneCell_toArray (by simp[Q_.cells,Value.oneCell'])
        have d5:Hid (b5.rangeAt c 0 f):=by show World.rangeAt _ _ _ _;rw[D];exact h0.o.box.rng
        have i:=h0.o.box.row.lt;have d6:Hid ((prog.info? 40).map (·.size)=some f.toArray.size):=by show _=_;rw[Tryz.fE];simp[N]
        have b1:Hid ((prog.info? 40).map (·.size)=some f.length):=by show _=_;rw[Tryz.fE,N]
        have b2:Hid (b5.there E 0 f.toArray.size):=by show World.there _ _ _ _;simpa[N] using h0.o.res.row.there (o:=0) (m:=7) (Me _)
        have⟨d7,l2⟩:=aH D N;clear D N;go_wp2_with (first | (refine wpList_load_mid rfl 40 _ rfl c 0 rfl f _ d5.o underlying40 rfl b1.o ?_) | (refine wpList_store_mid rfl 40 _ _ rfl E 0 f.toArray rfl rfl b2.o d6.o d4.o ?_;rw[List.toList_toArray]))
        have hR:=Mi b5 E 0 f (by have:=b2.o;simpa using this);refine bu f _ _ results85 rfl hR underlying40 rfl b1.o rfl rfl ?_;have d8:=d7.o;subst d8;exact h0.o.ends (i0.o.trans (by rw[c1.o,List.append_nil])) g4.o (λR=>by have a3:=R.1;cases a3) rfl
   case rest=>
    clear t j v x k z A i;clear S lo v9 tl c9 d0;obtain⟨B,b6,c0,S,r4,A4,A5,w0,A6,A7,y5,i3⟩:=hcut;obtain⟨wM,rfl⟩:=aj wc;have g4:Hid (∀a6,a6<M+1->aT (Kk h) (Qq l) (aJ (Kk h) (Qq l) Q a6).1):=λa6 hi=>by
     rcases Nat.lt_or_ge a6 M with g|g
     .exact d1.o a6 g
     .obtain rfl:a6=M:=E5;rw[d2.o];exact i3.o
    go_upto_region 24 with fail
    obtain⟨t,j,v,x,k,z,A⟩:=S.o.box.all;have i:=S.o.box.row.lt;obtain⟨_,g5⟩:=S.o.box.row.row.at (i:=5) E5;go_upto_region 25 with fail
    have c5:Hid (AgM w (wM.setCell ⟨c,5,none⟩ (.a (B.Zq+1))) c E Z y.cost na y.steps.length nc ({B with Zq:=B.Zq+1}) b6 c0 (.slice qa L.length qc) L):=S.o.put E5 rfl rfl;generalize C:wM.setCell ⟨c,5,none⟩ (.a (B.Zq+1))=wP at c5  ⊢;clear C;clear t j v x k z A i;clear g5;obtain⟨t,j,v,x,k,z,A⟩:=c5.o.box.all;have i:=c5.o.box.row.lt;dsimp only at k;obtain⟨ix,c4⟩:∃ix:Nat,B.at'= (ix:Int):=⟨B.at'.toNat,E5⟩;have f7:ix<y.steps.length:=E5;have w4:(ix:Int)<(y.steps.length:Int):=E5;obtain⟨tb,tq,w5,rfl,l3,T,I,J,O,P,rfl,e0,f8,_⟩:=(Steps.kept k5.o c5.o.kw) ix f7;obtain⟨s,hs⟩:=aj (y.steps.getD ix Xq.zero);rw[<-hs] at T e0 f8;have t0:=T 0 _ rfl;have t1:=T 1 _ rfl;have t2:=T 2 _ rfl;have t3:=T 3 _ rfl;have t4:=T 4 _ rfl;have t5:=T 5 _ rfl;have t6:=T 6 _ rfl;have t7:=T 7 _ rfl;rw[M_] at t0;have f1:s∈y.steps:=by rw[hs];simp[List.getD,f7]
    have o9:=(h4 y e9 s f1).1;have p0:=(h4 y e9 s f1).2;have i2:=n6 y e9;have b7:Hid (stepOf ⟨y.cost,y.steps⟩ B.at'=s):=by show _=_;unfold stepOf;rw[c4,hs];rfl
    have p1:=c5.o.a1;have pz:=c5.o.act.lt;rw[c4] at k;have f9:=Kz e0;clear T e0 f8 hs;have y6:=i2.each s f1;clear c4;go_upto_region 26 with fail
    have kS:K_ wP (wP.alloc (.cells #[.slice I s.asks.length J,.a s.on,.slice O s.cases.length P,.a s.els,.a s.fall,.bool s.fin,.bool s.bad,.string s.give] 176)):=ah _ _;have H:=Kz (c5.o.kept kS);have n1:=Kz (f9.o.kept kS);have v0:=X_ wP #[.slice I s.asks.length J,.a s.on,.slice O s.cases.length P,.a s.els,.a s.fall,.bool s.fin,.bool s.bad,.string s.give] 176 0 _ rfl;have v5:=X_ wP #[.slice I s.asks.length J,.a s.on,.slice O s.cases.length P,.a s.els,.a s.fall,.bool s.fin,.bool s.bad,.string s.give] 176 5 _ rfl;have v6:=X_ wP #[.slice I s.asks.length J,.a s.on,.slice O s.cases.length P,.a s.els,.a s.fall,.bool s.fin,.bool s.bad,.string s.give] 176 6 _ rfl;have v7:=X_ wP #[.slice I s.asks.length J,.a s.on,.slice O s.cases.length P,.a s.els,.a s.fall,.bool s.fin,.bool s.bad,.string s.give] 176 7 _ rfl;simp only[MM] at v0 v5 v6 v7;have e4:wP.heap.size<(wP.alloc (.cells #[.slice I s.asks.length J,.a s.on,.slice O s.cases.length P,.a s.els,.a s.fall,.bool s.fin,.bool s.bad,.string s.give] 176)).heap.size:=E9;obtain⟨sb,e1⟩:=aj wP.heap.size;have j3:sb≠c:=by rw[e1];omega
    have n2:Hid (bn (wP.alloc (.cells #[.slice I s.asks.length J,.a s.on,.slice O s.cases.length P,.a s.els,.a s.fall,.bool s.fin,.bool s.bad,.string s.give] 176)) sb 176):=by rw[e1];exact (aD.made wP _ _).type
    rw[<-e1] at v0 v5 v6 v7 e4⊢;generalize C:wP.alloc (.cells #[.slice I s.asks.length J,.a s.on,.slice O s.cases.length P,.a s.els,.a s.fall,.bool s.fin,.bool s.bad,.string s.give] 176)=wQ at H n1 n2 v0 v5 v6 v7 e4⊢;clear C kS e1 t0 t1 t2 t3 t4 t5 t6 t7 p1 pz l3 f9 c5;clear t j v x k z A i;obtain⟨ic,i7,i8,i9,j0⟩:=aU Tryz.eD;have r5:w.heap.size<=wQ.heap.size:=H.o.kw.size;go_upto_region 27 with (at_builtin;refine eZ rfl (.tmp 98) (.tmp 100) 26 rfl w.heap.size 9 ic _ 16 underlying26 i7 i8 i9 j0 rfl (.slice qa L.length qc) L.length (L.map Value.string) rfl H.o.ask I J s.asks rfl n1.o F5 E5 r5 ?_;intro vA wA n3 n4 r6;obtain⟨h1,h3,rfl⟩:=ay n3;have b3:=Kz (H.o.asks n3 n4 r6);have kA:But (λb=>(Value.slice qa L.length qc).ownBlock=some b) wQ wA:=But.aI n4 (λb e=>e);have j4:Hid (¬(Value.slice qa L.length qc).ownBlock=some sb):=λe=>aS n2.o (Y_ H.o.ask e) E8 rfl)
    have u5:=(kA.cell e4 j4.o (o:=5)).trans v5;have u6:=(kA.cell e4 j4.o (o:=6)).trans v6;have u7:=(kA.cell e4 j4.o (o:=7)).trans v7;have r7:=Mf e4 kA.size;have e5:=r7;have e6:=r7;clear v0 v5 v6 v7 e4 kA j4 n3 n4 r6 H n1 n2 r5 i7 i8 i9 j0;have r8:(L++s.asks).length=L.length+s.asks.length:=MU;have j5:=Kz r8;clear r8;cases j6:s.fin
    .rw[j6] at u5;go_wp2
     go_roundg (gk-1)
     case measure=>omega
     case rel=>
      have c1:aJ (Kk h) (Qq l) Q (M+1)= ({B with Zq:=B.Zq+1},L++s.asks):=by rw[i0.o,r4.o];unfold dZ;rw[b7.o,j6];rfl
      exact⟨M+1,b6,c0,h1,h3,by rw[c1,j5.o],E5,g4,Kz (by rw[c1];dsimp only;rw[j5.o];exact b3.o)⟩
    .rw[j6] at u5;go_upto_region 28 with fail
     obtain⟨t,j,v,x,k,z,A⟩:=b3.o.box.all;have i:=b3.o.box.row.lt;obtain⟨_,g1⟩:=b3.o.box.row.row.at (i:=1) E5;go_upto_region 29 with fail
     have b4:Hid (AgM w (wA.setCell ⟨c,1,none⟩ (.bool true)) c E Z y.cost (some ⟨tb,tq,none⟩) y.steps.length nc ({B with Zq:=B.Zq+1,over:=true}) b6 c0 (.slice h1 (L.length+s.asks.length) h3) (L++s.asks)):=b3.o.put E5 rfl rfl;have u62:(wA.setCell ⟨c,1,none⟩ (.bool true)).cell? ⟨sb,6,none⟩=some (.bool s.bad):=by rw[Zj j3];exact u6
     have e7:sb<(wA.setCell ⟨c,1,none⟩ (.bool true)).heap.size:=by rw[size_setCell];exact e5
     have u72:(wA.setCell ⟨c,1,none⟩ (.bool true)).cell? ⟨sb,7,none⟩=some (.string s.give):=by rw[Zj j3];exact u7
     have e8:sb<(wA.setCell ⟨c,1,none⟩ (.bool true)).heap.size:=by rw[size_setCell];exact e6
     generalize C:wA.setCell ⟨c,1,none⟩ (.bool true)=wR at b4 u62 e7 u72 e8⊢;clear C;clear t j v x k z A i;clear g1;clear u6 e5;have u6:=u62;have e5:=e7;clear u62 e7;clear u7 e6;have u7:=u72;have e6:=e8;clear u72 e8;obtain⟨t,j,v,x,k,z,A⟩:=b4.o.box.all;have i:=b4.o.box.row.lt;obtain⟨_,g2⟩:=b4.o.box.row.row.at (i:=2) E5;go_upto_region 30 with fail
     have U:Hid (AgM w (wR.setCell ⟨c,2,none⟩ (.bool s.bad)) c E Z y.cost (some ⟨tb,tq,none⟩) y.steps.length nc ({B with Zq:=B.Zq+1,over:=true,fail:=s.bad}) b6 c0 (.slice h1 (L.length+s.asks.length) h3) (L++s.asks)):=b4.o.put E5 rfl rfl;have u62:(wR.setCell ⟨c,2,none⟩ (.bool s.bad)).cell? ⟨sb,6,none⟩=some (.bool s.bad):=by rw[Zj j3];exact u6
     have e7:sb<(wR.setCell ⟨c,2,none⟩ (.bool s.bad)).heap.size:=by rw[size_setCell];exact e5
     have u72:(wR.setCell ⟨c,2,none⟩ (.bool s.bad)).cell? ⟨sb,7,none⟩=some (.string s.give):=by rw[Zj j3];exact u7
     have e8:sb<(wR.setCell ⟨c,2,none⟩ (.bool s.bad)).heap.size:=by rw[size_setCell];exact e6
     generalize C:wR.setCell ⟨c,2,none⟩ (.bool s.bad)=wS at U u62 e7 u72 e8⊢;clear C;clear t j v x k z A i;clear g2;clear u6 e5;have u6:=u62;have e5:=e7;clear u62 e7;clear u7 e6;have u7:=u72;have e6:=e8;clear u72 e8;obtain⟨t,j,v,x,k,z,A⟩:=U.o.box.all;have i:=U.o.box.row.lt;have y7:s.give.size<=maxLen:=y6.give;have y8:B.texts.length<=maxLen:=F5;have r9:∀d9∈B.texts,d9.size<=maxLen:=λd9 ht=>by have:=y5.o d9 ht;unfold maxLen;omega
     have s0:Hid (Strs wS b6 B.texts):=by
      obtain⟨ta,tc,s1,y9⟩:=bK U.o.txt;simp only[MW] at s1;rw[s1.1];exact y9
     go_wp2_with fail
     refine (oO wS s.give b6 c0 B.texts y7 y8 r9 s0.o).mono ?_;rintro e wT ⟨rfl,kT⟩;have b8:=Kz (U.o.kept kT);clear u6 u7 e5 e6 kT r9 s0;clear t j v x k z A i;obtain⟨fb,n5⟩:=aj (mY s.give B.texts);rw[<-n5];have z0:=Kz n5;clear n5;obtain⟨t,j,v,x,k,z,A⟩:=b8.o.box.all;have i:=b8.o.box.row.lt;obtain⟨_,i4⟩:=b8.o.box.row.row.at (i:=3) E5;go_wp2_with fail
     have e2:Hid (AgM w (wT.setCell ⟨c,3,none⟩ (.string fb)) c E Z y.cost (some ⟨tb,tq,none⟩) y.steps.length nc ({B with Zq:=B.Zq+1,over:=true,fail:=s.bad,text:=fb}) b6 c0 (.slice h1 (L.length+s.asks.length) h3) (L++s.asks)):=b8.o.put E5 rfl rfl;go_roundg (gk-1)
     case measure=>omega
     case rel=>
      have c1:aJ (Kk h) (Qq l) Q (M+1)= ({B with Zq:=B.Zq+1,over:=true,fail:=s.bad,text:=fb},L++s.asks):=by rw[i0.o,r4.o];unfold dZ;rw[b7.o,j6,z0.o];rfl
      exact⟨M+1,b6,c0,h1,h3,by rw[c1,j5.o],E5,g4,Kz (by rw[c1];dsimp only;rw[j5.o];exact e2.o)⟩
theorem a_.zero{α ι :Type}{ready:α-> ι ->Prop}{step:α-> ι ->α}{s t:α}{k:Nat}(h:a_ ready step s t k)(c:k=0):t=s:=by
 cases h with
 | here=>rfl
 | step=>omega
theorem kK(A B:List Q_)(m:NG):Qq (A++B) m=match Qq A m with | some r=>some r | none=>Qq B m:=by
 unfold Qq;rw[List.find?_append];cases A.find? λr=>decide (r.name=m) <;> rfl
variable {l : List Q_}
theorem rD{n:NG}:Qq l n=none↔n∉l.map (·.name):=by
 unfold Qq;rw[List.find?_eq_none];constructor
 .intro h b;obtain⟨r,a,e⟩:=MH.1 b;exact h r a (by simpa using e)
 .intro h r a e;exact h (MH.2 ⟨r,a,by simpa using e⟩)
theorem oP(h:(l.map (·.name)).Nodup):∀x∈l,∀y∈l,x.name=y.name->x=y:=by
 intro x d y f e;obtain⟨i,a,rfl⟩:=Ms d;obtain⟨j,b,rfl⟩:=Ms f;have c:=Mr.1 h;have:i=j:=by
  rcases Ns i j with g|g|g
  .exact Nv (by rw[List.getElem_map,List.getElem_map];exact e) (c i j (by simpa using a) (by simpa using b) g)
  .exact g
  .exact Nv (by rw[List.getElem_map,List.getElem_map];exact e.symm) (c j i (by simpa using b) (by simpa using a) g)
 subst this
 rfl
theorem gF(h:(l.map (·.name)).Nodup){r:Q_}(b:r∈l):Qq l r.name=some r:=(pG (oP h)).2 ⟨b,rfl⟩
variable {i : Nat}
theorem jQ(hi:i<l.length):l.getD i Q_.zero∈l:=by simp[List.getD,hi]
theorem qJ{r:Q_}(hi:i<l.length)(a:r.name= (l.getD i Q_.zero).name):(l.set i r).map (·.name)=l.map (·.name):=by
 rw[List.map_set];have:(l.map (·.name))[i]'(by simpa using hi)=r.name:=by simp[a,List.getD,hi]
 rw[<-this,List.set_getElem_self]
theorem He(h:(l.map (·.name)).Nodup){r:Q_}(hi:i<l.length)(a:r.name= (l.getD i Q_.zero).name)(m:NG):Qq (l.set i r) m=if m=r.name then some r else Qq l m:=by
 have b:((l.set i r).map (·.name)).Nodup:=by rw[qJ hi a];exact h
 by_cases e:m=r.name
 .rw[Nt e,e];exact gF b (List.mem_iff_getElem.2 ⟨i,by simpa using hi,E9⟩)
 .rw[Nu e];cases c:Qq l m with
  | none=>rw[rD,qJ hi a];exact rD.1 c
  | some x=>
   obtain⟨j,d⟩:=aY c;refine (pG (oP b)).2 ⟨?_,d⟩;obtain⟨k,f,rfl⟩:=Ms j;refine List.mem_iff_getElem.2 ⟨k,by simpa using f, ?_⟩;rw[List.getElem_set_ne];rintro rfl;exact e (by rw[<-d,a];simp[List.getD,f])
theorem ng(W:dA):∀(bs:List NG) (l:List Q_),(l.map (·.name)).Nodup->∃G,bN W l bs=l++G/\(∀g∈G,g=Q_.fresh g.name/\(W g.name).isSome=true)/\((bN W l bs).map (·.name)).Nodup
 | [],l,h=>⟨[],by unfold bN;simp,λg a=>(by cases a),by unfold bN;exact h⟩
 | b :: bs,l,h=>by
  unfold bN;by_cases c:(W b).isSome=true/\(Qq l b).isNone=true
  .have i:b∉l.map (·.name):=rD.1 (by simpa using c.2);have j:((l++ [Q_.fresh b]).map (·.name)).Nodup:=by
    rw[Ny,List.map_cons,List.map_nil];exact List.nodup_append.2 ⟨h,E9,λx d y f e=>by rw[Mm] at f;rw[e,f] at d;exact i d⟩
   obtain⟨G,k,m,n⟩:=ng W bs (l++ [Q_.fresh b]) j;rw[Nt c];refine⟨Q_.fresh b :: G,by rw[k];simp,λg a=>?_,n⟩;rcases Na.1 a with e | e
   .rw[e];exact⟨rfl,c.1⟩
   .exact m g e
  .rw[Nu c];exact ng W bs l h
variable {L : List Q_}
theorem Hm{W:dA}{F:List Q_}(h:∀r∈F,r=Q_.fresh r.name):nN W (Qq (L++F)) (Qq L):=λn=>by
 unfold bH;cases W n with
 | none=>rfl
 | some A=>
  simp only;rw[kK];cases e:Qq L n with
  | some r=>rfl
  | none=>
   simp only;cases d:Qq F n with
   | none=>rfl
   | some r=>
    have:r.over=false:=by rw[h r (aY d).1];rfl
    simp only;rw[this]
    rfl
structure lg (Kq:List Qz) (L R nx:List Q_) (i:Nat) (b:Bool):Prop where
 len:nx.length=L.length
 pre:∃F,R=L++F/\∀r∈F,r=Q_.fresh r.name/\(Kk Kq r.name).isSome=true
 dif:(R.map (·.name)).Nodup
 nam:nx.map (·.name)=L.map (·.name)
 nxt:∀j,j<i->j<L.length->∃k,nx.getD j Q_.zero= (aJ (Kk Kq) (Qq L) (L.getD j Q_.zero).name k).1/\(∀m,m<k->aT (Kk Kq) (Qq L) (aJ (Kk Kq) (Qq L) (L.getD j Q_.zero).name m).1)/\¬aT (Kk Kq) (Qq L) (nx.getD j Q_.zero)
 oth:∀j,i<=j->nx.getD j Q_.zero=L.getD j Q_.zero
 led:∃k,a_ (bB (Kk Kq)) (doX (Kk Kq)) (Qq L) (Qq (nx++R.drop L.length)) k
 yes:b=true->∃j,j<L.length/\nx.getD j Q_.zero≠L.getD j Q_.zero
 no:b=false->∀j,j<i->j<L.length->(nx.getD j Q_.zero).Zq= (L.getD j Q_.zero).Zq/\(nx.getD j Q_.zero).over= (L.getD j Q_.zero).over
variable {Kq : List Qz}
theorem lg.start(h:(L.map (·.name)).Nodup):lg Kq L L L 0 false:=
 ⟨rfl,⟨[],E9,λr c=>(by cases c)⟩,h,rfl,λj b=>aO b,λ_ _=>rfl,⟨0,by rw[List.drop_length,List.append_nil];exact .here _⟩,λh=>(by cases h),λ_ j b=>aO b⟩
variable {R nx : List Q_}
theorem lg.nd{b:Bool}(h:lg Kq L R nx i b):((nx++R.drop L.length).map (·.name)).Nodup/\(L.map (·.name)).Nodup:=by
 obtain⟨F,d,_⟩:=h.pre;have c:=h.dif;rw[d,Ny] at c;refine⟨?_,(List.nodup_append.1 c).1⟩;rw[d,List.drop_left,Ny,h.nam];exact c
theorem lg.ans{b:Bool}(h:lg Kq L R nx i b):nN (Kk Kq) (Qq R) (Qq L):=by
 obtain⟨F,c,d⟩:=h.pre;rw[c];exact Hm (λr f=>(d r f).1)
theorem lg.next{b O:Bool}(h:lg Kq L R nx i b)(P:ClT (Kk Kq) (Qq L))(hi:i<L.length){n:NG}(s:n= (L.getD i Q_.zero).name){k:Nat}(C:∀j,j<k->aT (Kk Kq) (Qq R) (aJ (Kk Kq) (Qq R) n j).1)(h2:¬aT (Kk Kq) (Qq R) (aJ (Kk Kq) (Qq R) n k).1)
 (t:O= (b || decide ((aJ (Kk Kq) (Qq R) n k).1.Zq≠(L.getD i Q_.zero).Zq) || decide ((aJ (Kk Kq) (Qq R) n k).1.over≠(L.getD i Q_.zero).over))):
  lg Kq L (bN (Kk Kq) R (aJ (Kk Kq) (Qq R) n k).2) (nx.set i (aJ (Kk Kq) (Qq R) n k).1) (i+1) O:=by
 have v:=h.nd;have Q:=h.ans;simp only[Q.again n,Q.can] at C h2 t⊢;obtain⟨F,w,hf⟩:=h.pre;obtain⟨f,l⟩:=aj ((aJ (Kk Kq) (Qq L) n k).1);obtain⟨D,S⟩:=aj ((aJ (Kk Kq) (Qq L) n k).2);rw[<-l] at h2 t⊢;rw[<-S];have T:f.name=n:=by rw[l];exact lh k
 obtain⟨G,E,g2,g3⟩:=ng (Kk Kq) D R h.dif;have y:i<nx.length:=by rw[h.len];exact hi
 have H:(nx.getD i Q_.zero)=L.getD i Q_.zero:=h.oth i (Me _);have U:f.name= (nx.getD i Q_.zero).name:=by rw[T,s,H]
 have a2:(nx.map (·.name)).Nodup:=by rw[h.nam];exact v.2
 have c:∀j,(nx.set i f).getD j Q_.zero=if j=i then f else nx.getD j Q_.zero:=fun j=>by
  by_cases e:j=i
  ·subst e;rw[Nt rfl];simp[List.getD,y]
  ·rw[Nu e];simp[List.getD,MC (Ne.symm e)]
 refine⟨by rw[Np];exact h.len,⟨F++G,by rw[E,w,List.append_assoc],fun V hr=>?_⟩,g3,by rw[qJ y U];exact h.nam,fun j d I=>?_,fun j d=>?_, ?_,fun J=>?_,fun p j d I=>?_⟩
 ·rcases Mo.1 hr with e|e
  ·exact hf V e
  ·exact g2 V e
 ·rw[c];by_cases e:j=i
  ·subst e;rw[Nt rfl,<-s];exact⟨k,l,C,h2⟩
  ·rw[Nu e];exact h.nxt j (by omega) I
 ·rw[c,Nu (by omega)];exact h.oth j (by omega)
 ·obtain⟨k1,z⟩:=h.led;have X:=P.led z;obtain⟨q,K⟩:=Ga (n:=n) (k:=k) z C;have a3:R.drop L.length=F:=by rw[w,List.drop_left]
  have a4:(bN (Kk Kq) R D).drop L.length=F++G:=by rw[E,w,List.append_assoc,List.drop_left]
  rw[a3] at z X q K v;rw[a4];obtain⟨τ,hτ⟩:=aj (Qq (nx++F));have a5:L.getD i Q_.zero∈nx++F:=Mo.2 (.inl (by rw[<-H];exact jQ y));have Y:Qq (nx++F) n=some (L.getD i Q_.zero):=by rw[s];exact gF v.1 a5
  -- where the run stands
  have a6:Qq L n=some (L.getD i Q_.zero):=by rw[s];exact gF v.2 (jQ hi)
  obtain⟨M,L0,a,A,Z⟩:=P.Jm n _ a6;rw[M] at A Z;have N:a<=k:=by
   rcases Nat.lt_or_ge k a with g|g
   ·exact Nv (by rw[l];exact Z k g) h2
   ·exact g
  have a7:=X.cl n _ L0 Y (by
   refine⟨a, ?_,fun j d=>?_⟩
   ·rw[M,q a N];exact A
   ·rw[M];exact K j (by omega))
  have a0:=yX (W:=Kk Kq) (n:=n) (k-a) (σ:=Qq (nx++F)) (k0:=a) (by rw[q a N,A];exact Y) (fun j d=>K j (by omega)) (fun a8 B r=>a7 a8 (by rw[q a N,A] at B;exact B) r);rw[show a+ (k-a)=k by omega] at a0;have a9:Qq (nx.set i f++ (F++G))=Cg (Kk Kq) (Qq (nx++F)) n k:=by
   funext m
   unfold Cg;rw[q k (Me _),<-l,<-S,kK,He a2 y U,T];by_cases e:m=n
   ·rw[Nt e,Nt e]
   ·rw[Nu e,Nu e,kK nx F];cases hx:Qq nx m with
    | some x=>rfl
    | none=>
     simp only;rw[kK F G];cases B:Qq F m with
     | some x=>rfl
     | none=>
      simp only;have b0:Qq L m=none:=by rw[rD,<-h.nam];exact rD.1 hx
      have r:=mE (Kk Kq) D R m;rw[E,kK,w,kK,b0] at r;simp only[B] at r;exact r
  rw[a9];exact⟨_,z.trans a0⟩
 ·rw[t] at J;simp only[Bool.or_eq_true,NA] at J;rcases J with (g|g) | g
  ·obtain⟨j,d,a1⟩:=h.yes g;have:j≠i:=fun e=>a1 (by rw[e];exact H)
   exact⟨j,d,by rw[c,Nu this];exact a1⟩
  ·exact⟨i,hi,by rw[c,Nt rfl];exact fun e=>g (by rw[e])⟩
  ·exact⟨i,hi,by rw[c,Nt rfl];exact fun e=>g (by rw[e])⟩
 ·rw[t] at p;simp only[Bool.or_eq_false_iff,decide_eq_false_iff_not,Decidable.not_not] at p;rw[c];by_cases e:j=i
  ·rw[Nt e,e];exact⟨p.1.2,p.2⟩
  ·rw[Nu e];exact h.no p.1.1 j (by omega) I
theorem lg.still(h:lg Kq L R nx L.length false)(e:ClT (Kk Kq) (Qq L))(D:R.length=L.length):nx++R.drop L.length=L/\AtEnd (bB (Kk Kq)) (Qq L):=by
 have f:∀j,j<L.length->nx.getD j Q_.zero=L.getD j Q_.zero/\¬aT (Kk Kq) (Qq L) (L.getD j Q_.zero):=λj a=>by
  obtain⟨k,b,i,l⟩:=h.nxt j a a;obtain⟨v,w⟩:=h.no rfl j a a;have m:=gF h.nd.2 (jQ a);obtain⟨_,E,c,n,p⟩:=e.Jm _ _ m;have q:=e.web _ _ m;have F:c<=k:=by
   rcases Nat.lt_or_ge k c with g|g
   .exact Nv (by rw[b];exact p k g) l
   .exact g
  rcases Nat.lt_or_ge c k with g|g
  .exfalso
   have d:=(i c g).1;have r:=fG q p d;rw[n] at d r;have x:(aJ (Kk Kq) (Qq L) (L.getD j Q_.zero).name k).1.over=false:=by rw[<-b,w];exact d
   have y:=fG q i x;rw[<-b,v] at y;simp only at r;omega
  .obtain rfl:c=k:=E5;rw[n] at b;have s:nx.getD j Q_.zero=L.getD j Q_.zero:=b;exact⟨s,by rw[<-s];exact l⟩
 have z:nx=L:=by
  apply List.ext_getElem h.len;intro j A t;have:=(f j t).1;simpa[List.getD,A,t] using this
 refine⟨?_,λG ⟨H,B,C⟩=>?_⟩
 .rw[z,List.drop_of_length_le E5,List.append_nil]
 .obtain⟨j,a,rfl⟩:=Ms (aY B).1;exact (f j a).2 (by simpa[List.getD,a] using C)
theorem lg.moved{b:Bool}(h:lg Kq L R nx i b)(q:WfX (Kk Kq) (Qq L))(c:b=true\/L.length<R.length):b_ (Kq.map (·.name)) (Qq (nx++R.drop L.length))<b_ (Kq.map (·.name)) (Qq L):=by
 obtain⟨r,f⟩:=h.led;have y:=JJ (Kq.map (·.name)) f q (λz s=>lK s);rcases Nat.eq_zero_or_pos r with k | k
 .exfalso
  subst k;have l:Qq (nx++R.drop L.length)=Qq L:=f.zero rfl;rcases c with g|g
  .obtain⟨j,d,t⟩:=h.yes g;have m:j<nx.length:=by rw[h.len];exact d
   have a:=gF h.nd.1 (Mo.2 (.inl (jQ m)));have v:=gF h.nd.2 (jQ d);have w:(nx.getD j Q_.zero).name= (L.getD j Q_.zero).name:=by
    have:=congrArg (λx=>x[j]?) h.nam;simpa[List.getD,m,d] using this
   rw[l,w,v] at a;exact t (by simpa using a.symm)
  .obtain⟨F,e,_⟩:=h.pre;have n:0<F.length:=by rw[e,MU] at g;omega
   have c:F[0]∈nx++R.drop L.length:=by rw[e,List.drop_left];exact Mo.2 (.inr (Mq n))
   have a:=gF h.nd.1 c;rw[l] at a;have p:=h.dif;rw[e,Ny] at p;exact (List.nodup_append.1 p).2.2 _ (MH.2 ⟨_,(aY a).1,(aY a).2⟩) _ (MH.2 ⟨F[0],Mq n,rfl⟩) rfl
 .omega
structure mD (Kq:List Qz) (Kj:List NG) (L:List Q_) (ag:Bool) (gg:Nat):Prop where
 nd:(L.map (·.name)).Nodup
 good:dm Kq (Qq L)
 led:∃k,a_ (bB (Kk Kq)) (doX (Kk Kq)) (Qq (bM Kq Kj)) (Qq L) k
 fin:ag=false->AtEnd (bB (Kk Kq)) (Qq L)
 gg:gg=if ag=true then b_ (Kq.map (·.name)) (Qq L)+1 else 0
section
variable {Kq : List Qz} {Kj : List NG} {L R nx : List Q_} {ag b : Bool} {gg : Nat}
theorem mD.cl(h:mD Kq Kj L ag gg):ClT (Kk Kq) (Qq L):=by
 obtain⟨k,b⟩:=h.led;exact (ClT.start Kj).led b
theorem mD.wf(h:mD Kq Kj L ag gg):WfX (Kk Kq) (Qq L):=λn r d=>by
 obtain⟨f,e⟩:=h.good n r d;refine⟨f,h.cl.web n r d,e.lo,e.hi⟩
theorem mD.all(h:mD Kq Kj L ag gg):∀r∈L,r.Good Kq:=λr b=>(h.good r.name r (gF h.nd b)).2
theorem mD.len(h:mD Kq Kj L ag gg):L.length<=Kq.length:=by
 have c:∀n∈L.map (·.name),n∈Kq.map (·.name):=λn d=>by
  obtain⟨r,e,rfl⟩:=MH.1 d;exact lK (h.cl.web _ _ (gF h.nd e))
 have:=List.Nodup.length_le_of_subset h.nd c;simpa using this
theorem IA{b:List Qz}(i:bg (Kk b)){σ τ :Env}{k:Nat}(j:a_ (bB (Kk b)) (doX (Kk b)) σ τ k)(h:dm b σ):dm b τ :=
 j.keeps (P:=dm b) (λs n g d=>by
  obtain⟨r,d,l⟩:=d;intro m p a;rw[dV d] at a;by_cases e:m=n
  .rw[Nt e] at a;cases a;exact⟨by rw[di,(g n r d).1,e],dP i g (g n r d).2 l⟩
  .rw[Nu e] at a;cases f:s m with
   | some x=>rw[f] at a;cases a;exact g m _ f
   | none=>
    rw[f] at a;simp only at a
    split at a
    .next c=>cases a;exact⟨rfl,gL i c.2⟩
    .cases a) h
theorem yT(a:List Qz)(Kj:List NG):Qq (bN (Kk a) [] Kj)=Qq (bM a Kj):=by
 funext n
 rw[gP,mE]
 rfl
theorem mD.start{a:List Qz}(b:bg (Kk a))(Kj:List NG):mD a Kj (bN (Kk a) [] Kj) true (b_ (a.map (·.name)) (Qq (bN (Kk a) [] Kj))+1):=by
 obtain⟨G,_,_,c⟩:=ng (Kk a) Kj [] List.nodup_nil;refine⟨c, ?_,⟨0, ?_⟩,λh=>(by cases h),by rw[Nt rfl]⟩
 .rw[yT];exact (fZ b Kj).env
 .rw[yT];exact .here _
theorem mD.next(l:bg (Kk Kq))(h:mD Kq Kj L true gg)(a:lg Kq L R nx L.length b){c:Bool}(e:c= (b || decide (L.length<R.length))):mD Kq Kj (nx++R.drop L.length) c (if c=true then b_ (Kq.map (·.name)) (Qq (nx++R.drop L.length))+1 else 0)/\(if c=true then b_ (Kq.map (·.name)) (Qq (nx++R.drop L.length))+1 else 0)<gg:=by
 obtain⟨v,m⟩:=h.led;obtain⟨w,i⟩:=a.led;have n:=a.pre;refine⟨⟨a.nd.1,IA l i h.good,⟨_,m.trans i⟩,λp=>?_,rfl⟩, ?_⟩
 .rw[p] at e;have d:=e.symm;simp only[Bool.or_eq_false_iff,decide_eq_false_iff_not] at d;obtain⟨F,q,_⟩:=n;have r:R.length=L.length:=by
   have:L.length<=R.length:=by rw[q,MU];omega
   omega
  have j:=a;rw[d.1] at j;obtain⟨s,t⟩:=j.still h.cl r;rw[s];exact t
 .have k:=h.gg;rw[Nt rfl] at k;rw[k];by_cases f:c=true
  .rw[Nt f];rw[f] at e;have:=a.moved h.wf (by
    have d:=e.symm;simp only[Bool.or_eq_true,NA] at d;exact d)
   omega
  .rw[Nu f];omega
end
theorem Dq{a:List Q_}(h:l.Perm a):dK l=dK a:=by
 unfold dK
 induction h with
 | nil=>rfl
 | cons x _ ih=>simp only[List.map_cons,List.sum_cons,ih]
 | swap x y l=>simp only[List.map_cons,List.sum_cons];omega
 | trans _ _ i1 i2=>rw[i1,i2]
theorem Gt(W:dA){a:List Q_}(h:l.Perm a):fO W l=fO W a:=by
 unfold fO
 induction h with
 | nil=>rfl
 | cons x _ ih=>simp only[List.map_cons,List.sum_cons,ih]
 | swap x y l=>simp only[List.map_cons,List.sum_cons];omega
 | trans _ _ i1 i2=>rw[i1,i2]
theorem mD.sorted{Kj:List NG}{m:Nat}(h:mD Kq Kj L false m):DR Kq Kj (L.foldl cZ [])/\Qq (L.foldl cZ [])=Qq L/\dK (L.foldl cZ [])=dK L/\fO (Kk Kq) (L.foldl cZ [])=fO (Kk Kq) L:=by
 obtain⟨f,p⟩:=jP L [] List.Pairwise.nil (oP h.nd);have c:Qq (L.foldl cZ [])=Qq L:=by
  funext n
  rw[p];cases Qq L n <;> rfl
 have k:∀r,r∈L.foldl cZ []↔r∈L:=λr=>by
  constructor
  .intro d;have e:=bJ f d;rw[c] at e;exact (aY e).1
  .intro d;have e:=gF h.nd d;rw[<-c] at e;exact (aY e).1
 have q:L.Nodup:=List.Pairwise.of_map (·.name) (λa b i j=>i (by rw[j])) h.nd;have s:(L.foldl cZ []).Nodup:=List.Pairwise.imp (R:=λx y:Q_=>aR x.name y.name) (S:=λx y=>x≠y) (λ{a b} i (j:a=b)=>dJ i (congrArg Q_.name j)) f;have l:(L.foldl cZ []).Perm L:=(List.perm_ext_iff_of_nodup s q).2 k;refine⟨⟨⟨f,λr d=>h.all r ((k r).1 d)⟩, ?_, ?_⟩,c,Dq l,Gt _ l⟩
 .rw[c];exact h.led
 .rw[c];exact h.fin rfl
def ovr :List NJ->Nat->List NJ->List NJ
 | xs,_,[]=>xs
 | xs,o,v :: vs=>ovr (xs.set o v) (o+1) vs
theorem EX :∀(vs xs:List NJ) (o:Nat),(ovr xs o vs).length=xs.length
 | [],_,_=>rfl
 | v :: vs,xs,o=>by unfold ovr;rw[EX vs];simp
theorem EW :∀(vs xs:List NJ) (o j:Nat),j<xs.length->(ovr xs o vs)[j]? =if o<=j/\j<o+vs.length then vs[j-o]? else xs[j]?
 | [],xs,o,j,_=>by unfold ovr;rw[Nu (by simp)]
 | v :: vs,xs,o,j,hj=>by
  unfold ovr;rw[EW vs _ _ _ (by simpa using hj)];by_cases a:o+1<=j/\j<o+1+vs.length
  ·rw[Nt a,Nt (by simp;omega),show j-o= (j-(o+1))+1 by omega,List.getElem?_cons_succ]
  ·rw[Nu a];by_cases b:j=o
   ·subst b;rw[Nt (by simp),Nat.sub_self,List.getElem?_cons_zero,Nq hj]
   ·rw[Nu (by simp;omega),MC (Ne.symm b)]
variable {base cap g n : Nat}
theorem oq{size:Nat}{e:TypeId}:∀(vs:List NJ) {w:NI} {xs:List NJ} (o:Nat),w.ownsRow base e size (.b g n cap) n xs->(w.setCells g o vs).ownsRow base e size (.b g n cap) n (ovr xs o vs)
 | [],_,_,_,h=>h
 | v :: vs,w,xs,o,h=>by
  rw[World.setCells];unfold ovr;exact oq vs (o+1) (h.stored o v).1
variable {l : List Q_} {xs : List NJ}
theorem IZ{i:Nat}{cs:List NJ}(b:xs.length=l.length*7)(c:cs.length=7)(j:Nat)(d:j<l.length)(hi:i<l.length):((ovr xs (i*7) cs).drop (j*7)).take 7=if j=i then cs else (xs.drop (j*7)).take 7:=by
 apply List.ext_getElem?;intro k;rw[List.getElem?_take];by_cases a:k<7
 ·rw[Nt a,List.getElem?_drop,EW _ _ _ _ (by rw[b];omega),c];by_cases e:j=i
  ·subst e;rw[Nt rfl,Nt (by omega),show j*7+k-j*7=k by omega]
  ·rw[Nu e,Nu (by omega),List.getElem?_take,Nt a,List.getElem?_drop]
 ·rw[Nu a];by_cases e:j=i
  ·rw[Nt e,List.getElem?_eq_none (by omega)]
  ·rw[Nu e,List.getElem?_take,Nu a]
theorem bZ.set{w:NI}{r:Q_}{xa:NH}{xc i:Nat}(h:bZ w xs l)(hi:i<l.length)(c:eU w 9 xa r.texts)(d:xa=none->xc=0):bZ w (ovr xs (i*7) (r.cells xa xc)) (l.set i r):=by
 refine⟨by rw[EX,Np];exact h.1,λj a=>?_⟩;rw[Np] at a;rw[IZ h.1 G5 j a hi];by_cases e:j=i
 .subst e;have b:(l.set j r).getD j Q_.zero=r:=by simp[List.getD,a]
  rw[Nt rfl,b];exact⟨xa,xc,rfl,c,d⟩
 .have b:(l.set i r).getD j Q_.zero=l.getD j Q_.zero:=by simp[List.getD,MC (Ne.symm e)]
  rw[Nu e,b];exact h.2 j a
theorem bZ.one{w:NI}(h:bZ w xs l):∀u∈xs,u.oneCell'=true:=fun u b=>by
 obtain⟨j,c,rfl⟩:=Ms b;have d:j / 7<l.length:=by have:=h.1;omega
 obtain⟨f,i,e,_⟩:=h.2 (j / 7) d;have a:xs[j]∈(xs.drop (j / 7*7)).take 7:=by
  refine List.mem_iff_getElem?.2 ⟨j % 7, ?_⟩;rw[List.getElem?_take,Nt (Nat.mod_lt _ (by omega)),List.getElem?_drop,show j / 7*7+j % 7=j by omega];exact Mj c
 rw[e] at a;exact Q_.one _ _ _ _ a
theorem bZ.at{w:NI}(h:bZ w xs l)(a:w.ownsRow base 40 7 (.b g n cap) n xs){i:Nat}(hi:i<l.length):∃xa xc,w.rangeAt g (i*7) ((l.getD i Q_.zero).cells xa xc)/\eU w 9 xa (l.getD i Q_.zero).texts/\(xa=none->xc=0)/\w.there g (i*7) 7:=by
 obtain⟨xa,xc,e,f,k⟩:=h.2 i hi;have m:n=l.length:=by have p:=a.1;have q:=h.1;omega
 refine⟨xa,xc,λj u b=>?_,f,k,λj c=>?_⟩
 .have c:j<7:=by have:=(Mk.1 b).1;simpa[Q_.cells] using this
  have d:((xs.drop (i*7)).take 7)[j]? =some u:=by rw[e];exact b
  rw[List.getElem?_take,Nt c,List.getElem?_drop] at d;have:=a.cells (g:=g) rfl _ _ d;rw[MZ,MM] at this;exact this
 .refine⟨?_,a.frozenAt _⟩;rw[a.cellAt _ E5,Mj (by rw[h.1];omega)]
  rfl
theorem iA :∀(vs:List NJ) (o:Nat) (w:NI),But (λb=>b=g) w (w.setCells g o vs)
 | [],_,w=>But.ax (K_.refl w)
 | v :: vs,o,w=>by
  rw[World.setCells];exact (But.set (S:=λb=>b=g) (But.ax (K_.refl w)) (p:=⟨g,o,none⟩) rfl v).trans (iA vs (o+1) _)
theorem Cc{w:NI}{b m:Nat}{a:NH}{d:NH}{k c e:Nat}(h:gQ w b a n cap d m c)(f:w.ownsRow base 40 7 (.b g k e) k xs):b≠g:=λi=>by
 subst i;exact own_ne h.row f rfl
theorem KnZ.other{f wr:NI}{j c p m:Nat}{a d:NH}{R:List Q_}{q:List NJ}(h:KnZ f wr wr j (.slice d R.length c) a n cap R d c xs)(l:wr.ownsRow base 40 7 (.b g m p) m q)(r:f.heap.size<=g)(s:(Value.slice d R.length c).ownBlock≠some g)(o:Nat)(vs:List NJ):
  KnZ f (wr.setCells g o vs) (wr.setCells g o vs) j (.slice d R.length c) a n cap R d c xs:=by
 have k:=iA vs o wr (g:=g);have i:=Cc h.known l;exact⟨bA r vs o h.kw,But.ax (K_.refl _),λ_ e=>.inl e,⟨k.row h.known.row i,(k.cell h.known.row.lt i).trans h.known.web,(k.cell h.known.row.lt i).trans h.known.runs⟩,k.owns h.own (λb e (t:b=g)=>s (by rw[e,t])),h.pack.but k (λb (e:b=g)=>by rw[e];exact dE l g rfl),h.nl⟩
theorem KnZ.over{d wr:NI}{j c i:Nat}{a:NH}{R:List Q_}{r:Q_}{xa:NH}{xc:Nat}(h:KnZ d wr wr j (.b g R.length c) a n cap R (some ⟨g,0,none⟩) c xs)(hi:i<R.length)(l:eU wr 9 xa r.texts)(m:xa=none->xc=0):
  KnZ d (wr.setCells g (i*7) (r.cells xa xc)) (wr.setCells g (i*7) (r.cells xa xc)) j (.b g (R.set i r).length c) a n cap (R.set i r) (some ⟨g,0,none⟩) c (ovr xs (i*7) (r.cells xa xc)):=by
 have k:=iA (r.cells xa xc) (i*7) wr (g:=g);have f:=Cc h.known h.own;have p:d.heap.size<=g:=(h.own.lt g rfl).1;have q:∀b,b=g->¬bn wr b 9:=λb e=>by rw[e];exact dE h.own g rfl
 refine⟨bA p _ _ h.kw,But.ax (K_.refl _),λ_ e=>.inl e,⟨k.row h.known.row f,(k.cell h.known.row.lt f).trans h.known.web, ?_⟩, ?_, ?_,λe=>(by rw[Np] at e;omega)⟩
 .rw[Np];exact (k.cell h.known.row.lt f).trans h.known.runs
 .rw[Np];exact oq _ _ h.own
 .exact (h.pack.set hi l m).but k q
