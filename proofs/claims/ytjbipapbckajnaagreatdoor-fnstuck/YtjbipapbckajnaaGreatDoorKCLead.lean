import Derived.Test.YtjbipapbckajnaaGreatDoorKXStart
import Derived.Test.YtjbipapbckajnaaGreatDoorKXNext
import Derived.Test.YtjbipapbckajnaaGreatDoorKWCheck5
import Derived.RangeFuncWrites
import Derived.RangeFuncCalls
set_option maxRecDepth 100000
set_option maxHeartbeats 25600000
namespace Go.Proofs.YtjbipapbckajnaaGreatDoor
open Go.RowKit Go.Proofs.Tryz
theorem aB.sets{b n:Nat}{t:TypeId}:∀(vs:List Pw) (p:Nat) {w:Pv},aB w b t n->aB (w.setCells b p vs) b t n
 | [],_,_,h=>h
 | v :: r,p,_,h=>by rw[World.setCells];exact aB.sets r (p+1) (h.set v)
theorem qE{w:Pv}{base:Nat}{t:TypeId}{a:Pt}{cap n:Nat}{l:List Ps}(h:w.ownsRow base t 1 (.slice a n cap) n (l.map Value.string)):fA w t a l/\(a=none->cap=0)/\∀b:Addr,a=some b->base<=b.block:=by
 have k:n=l.length:=by have:=h.1;simp at this;omega
 rcases h.2 with⟨e,m⟩|⟨g,p,c,e,d,f,q,_,_,_⟩
 .simp only[OG] at e;obtain⟨rfl,_,rfl⟩:=e;refine⟨.inl (Og.1 A7),λ_=>rfl,λ_ e=>by cases e⟩
 .simp only[OG] at e;obtain⟨rfl,_,rfl⟩:=e;refine⟨.inr ⟨g,c,_,rfl,f,λi j=>?_⟩,λe=>(by cases e),λb e=>by cases e;exact d⟩;have:=h.cells (g:=g) rfl i (.string (l.getD i ByteArray.empty)) (by simp[List.getD,j]);rw[OI,Ow] at this;exact this
variable {Kj : List Qq}
theorem nV(h:bF Kj 0):Kj.length<=60:=by
 rcases h with⟨_,h⟩|⟨_,_,h⟩|⟨_,_,_,h⟩|⟨_,_,_,_,h⟩|⟨h,_⟩
 .cases h
 .cases h
 .cases h
 .cases h
 .omega
theorem D_(h:bF Kj 0){k:Nat}(c:k<Kj.length):jo (Kj.getD k Qq.zero).name/\gW ⟨(Kj.getD k Qq.zero).cost,(Kj.getD k Qq.zero).steps⟩:=by
 rcases h with⟨_,h⟩|⟨_,_,h⟩|⟨_,_,_,h⟩|⟨_,_,_,_,h⟩|⟨_,d,_,e,_⟩
 .cases h
 .cases h
 .cases h
 .cases h
 .refine⟨Classical.byContradiction λb=>d ⟨k,c,b⟩,Classical.byContradiction λb=>e ⟨k,c,b⟩⟩
theorem cO(h:bF Kj 0):aX (Q_ Kj):=λn A c=>by
 obtain⟨k,d,e,_,rfl⟩:=gY c;obtain⟨a,f⟩:=D_ h d;rw[e] at a;exact⟨f,a⟩
theorem GD(h:bF Kj 0):uy Kj:=λy d s e=>by
 obtain⟨k,a,rfl⟩:=Oc d;have b:=(D_ h a).2;simp only[List.getD,NV a,Ph] at b;obtain⟨i,f,rfl⟩:=Oc e;have c:=ja (i:=(i:Int)) b A7 (by show (i:Int)<((Kj[k].steps.length:Nat):Int);omega);have j:stepOf ⟨Kj[k].cost,Kj[k].steps⟩ (i:Int)=Kj[k].steps[i]:=by simp[stepOf,List.getD,f]
 rw[j] at c;exact⟨A7,λx l=>by have:=(c.2 x l).2.1;omega⟩
theorem Xk.sets{lo hi:Nat}{a:Pv}{g:Nat}(b:lo<=g)(h2:g<hi):∀(vs:List Pw) (o:Nat) {u:Pv},Xk lo hi a u->Xk lo hi a (u.setCells g o vs)
 | [],_,_,h=>h
 | v :: r,o,_,h=>by rw[World.setCells];exact Xk.sets b h2 r (o+1) (h.setCell (p:=⟨g,o,none⟩) b h2 v)
def fK(Kj:List Qq)(Kk:List Ps)(sl:List Qz):Prop:=bF Kj 0/\eX Kk/\sl.length<=Kj.length/\Nw Kj Kk sl
section
variable (W : bR) (σ : Env)
end
theorem wL{Kj:List Qq}{σ:Env}{n:Ps}(d:aX (Q_ Kj))(h:dw Kj σ)(b:bi (Q_ Kj) σ n):dw Kj (doX (Q_ Kj) σ n):=by
 obtain⟨r,b,f⟩:=b;intro m q a;rw[ed b] at a;by_cases e:m=n
 .rw[Pe e] at a;cases a;exact⟨by rw[bP,e];exact (h n r b).1,dm d h (h n r b).2 f⟩
 .rw[Pf e] at a;cases c:σ m with
  | some x=>
   rw[c] at a;cases a;exact h m _ c
  | none=>
   rw[c] at a;simp only at a
   split at a
   .rename_i h2
    cases a;exact⟨rfl,gD d h2.2⟩
   .cases a
def nD(l:List Ps):Prop:=l.Pairwise aR
theorem nD.nodup{l:List Ps}(h:nD l):l.Nodup:=h.imp λb=>dU b
def Kt(l:List Ps)(x:Ps)(r:List Ps):Prop:=(x∈l/\r=l)\/(x∉l/\∃k,k<=l.length/\r=l.take k++x :: l.drop k/\(∀y∈l.take k,aR y x)/\∀y∈l.drop k,aR x y)
theorem Kt.asc{l r:List Ps}{x:Ps}(h:Kt l x r)(b:nD l):nD r/\∀s,s∈r↔s∈l\/s=x:=by
 rcases h with⟨e,rfl⟩|⟨e,k,n,rfl,f,i⟩
 .exact⟨b,λs=>⟨.inl,λh=>h.elim id (λj=>by rw[j];exact e)⟩⟩
 .have c:nD (l.take k++l.drop k):=by rw[OW];exact b
  unfold nD at c⊢;rw[Ou] at c⊢;refine⟨⟨c.1,Pn.2 ⟨i,c.2.1⟩,λa b m d=>?_⟩,λs=>?_⟩
  .rcases OL.1 d with rfl|d
   .exact f a b
   .exact c.2.2 a b m d
  .rw[N_,OL];constructor
   .rintro (h|h|h)
    .exact .inl (List.mem_of_mem_take h)
    .exact .inr h
    .exact .inl (List.mem_of_mem_drop h)
   .rintro (h|h)
    .rw[<-OW k l] at h;rcases N_.1 h with h|h
     .exact .inl h
     .exact .inr (.inr h)
    .exact .inr (.inl h)
section
variable (W : bR) (σ : Env)
def ry(s:Ps):Prop:=∃q,σ s=some q/\q.over=false
def bg(n s:Ps):Prop:=∃r A,σ n=some r/\r.over=false/\r.Zj≠0/\W n=some A/\s∈(stepOf A r.at').asks/\ry σ s
def oW(n:Ps)(ns:List Ps):Prop:=nD ns/\∀s,s∈ns↔bg W σ n s
def iw :Prop:=∀n r A,σ n=some r->r.over=false->r.Zj≠0->W n=some A->∀s∈(stepOf A r.at').asks,(W s).isSome=true->(σ s).isSome=true
end
theorem vL{A:eY}{r:Qz}:(bK A r).2= (stepOf A (bK A r).1.at').asks:=by
 unfold bK;simp only
 split <;> rfl
variable {σ : Env}
theorem FI{W:bR}{r:Qz}{A:eY}(c:W r.name=some A)(h:aZ W σ r)(a:(Y_ W σ r).1.over=false):(Y_ W σ r).2= (stepOf A (Y_ W σ r).1.at').asks:=by
 unfold Y_ at a⊢;rw[c] at a⊢;simp only at a⊢;by_cases b:r.Zj=0
 .rw[Pe b];exact vL
 .rw[Pf b] at a⊢;rcases h.2 with i|⟨l,j,d,k⟩
  .exact Pg i b
  .rw[c] at d;cases d;rw[k] at a⊢;simp only at a⊢;by_cases e:r.Zj=20
   .rw[Pe e] at a;cases a
   .rw[Pf e] at a⊢;by_cases f:(bQ (stepOf A r.at') j).over=true
    .rw[Pe f] at a;cases a
    .rw[Pf f];exact vL
variable {n : Ps} {Kj : List Qq}
theorem iw.did(p:iw (Q_ Kj) σ)(q:dw Kj σ)(t:bi (Q_ Kj) σ n):iw (Q_ Kj) (doX (Q_ Kj) σ n):=by
 obtain⟨r,b,v⟩:=t;have w:r.name=n:=(q n r b).1;intro m B A a f h i s j k;rw[ed b] at a;rw[ed b];by_cases e:s=n
 .rw[Pe e];rfl
 rw[Pf e];cases y:σ s with
 | some x=>rfl
 | none=>
  simp only;by_cases c:m=n
  .rw[Pe c] at a;cases a;subst c;have z:dM (Y_ (Q_ Kj) σ r).2 s=true:=by
    rw[bT,FI (by rw[w];exact i) v f];exact j
   simp[z,k]
  .rw[Pf c] at a;cases d:σ m with
   | some x=>
    rw[d] at a;cases a;have l:=p m _ A d f h i s j k;rw[y] at l;exact Pg l A9
   | none=>
    rw[d] at a;simp only at a
    split at a
    .cases a;exact Pg rfl h
    .cases a
theorem fK.asked{Kk:List Ps}{c:List Qz}(a:fK Kj Kk c):iw (Q_ Kj) (Qj c):=by
 have d:=cO a.1;obtain⟨_,_,_,j,L,i,f,_,rfl⟩:=a;have h:=f.keeps (P:=λσ:Env=>dw Kj σ/\iw (Q_ Kj) σ) (λσ m h e=>⟨wL d h.1 e.1,h.2.did h.1 e.1⟩) ⟨(fH d Kk).env,λn r A b k a=>by
  rw[fQ] at b
  split at b
  .cases b;exact Pg rfl a
  .cases b⟩
 exact h.2
theorem Di(m:dw Kj σ)(x:iw (Q_ Kj) σ){r:Qz}(d:σ n=some r)(s:Ps):s∈pend (Q_ Kj) σ r↔bg (Q_ Kj) σ n s:=by
 obtain⟨j,hgd⟩:=m n r d;obtain⟨A,b,_⟩:=hgd.act;rw[j] at b;unfold pend;constructor
 .intro h
  split at h
  .cases h
  .rename_i h0
   rw[j,b] at h;simp only[List.mem_filter] at h;obtain⟨e,a⟩:=h;have f:r.over=false:=by
    cases y:r.over
    .rfl
    .exact Pg (.inl y) h0
   have i:r.Zj≠0:=λz=>h0 (.inr z)
   refine⟨r,A,d,f,i,b,e, ?_⟩;unfold aP at a;cases k:Q_ Kj s with
   | none=>rw[k] at a;cases a
   | some B=>
    rw[k] at a;simp only at a;have p:=x n r A d f i b s e (by rw[k];rfl);cases l:σ s with
    | none=>rw[l] at p;cases p
    | some q=>
     rw[l] at a;simp only at a;cases c:q.over
     .exact⟨q,l,c⟩
     .rw[Pe c] at a;cases a
 .rintro⟨F,G,t,f,i,v,e,q,c,C⟩;rw[d] at t;cases t;rw[b] at v;cases v;rw[Pf (by rw[f];simp[i]),j,b];simp only[List.mem_filter];refine⟨e, ?_⟩;obtain⟨D,E⟩:=m s q c;obtain⟨B,w,_⟩:=E.act;rw[D] at w;unfold aP;rw[w,c];simp[C]
theorem bg.size(b:aX (Q_ Kj))(c:dw Kj σ){s:Ps}(h:bg (Q_ Kj) σ n s):s.size<=20:=by
 obtain⟨_,_,_,_,_,_,_,q,d,_⟩:=h;obtain⟨e,hgd⟩:=c s q d;obtain⟨A,a,_⟩:=hgd.act;rw[e] at a;exact (b s A a).2.2.1
def mY(Kj:List Qq)(Kk:List Ps)(sl:List Qz)(name:Ps)(ns:List Ps):Prop:=(fK Kj Kk sl/\oW (Q_ Kj) (Qj sl) name ns)\/(¬fK Kj Kk sl/\ns=[])
theorem oW.len(i:aX (Q_ Kj))(j:dw Kj σ){b:List Ps}(h:oW (Q_ Kj) σ n b):b.length<=5:=by
 cases d:b with
 | nil=>simp
 | cons x l=>
  obtain⟨r,A,e,_,_,c,_⟩:=(h.2 x).1 (by rw[d];simp);obtain⟨k,hgd⟩:=j n r e;obtain⟨m,a,p,q⟩:=hgd.act;rw[k,c] at a;cases a;have w:=(ja (i n A c).1 p q).1;have:=List.Nodup.length_le_of_subset h.1.nodup (l₂:=(stepOf A r.at').asks) (λs t=>by
   obtain⟨y,m,f,_,_,a,v,_⟩:=(h.2 s).1 t;rw[e] at f;cases f;rw[c] at a;cases a;exact v)
  rw[<-d];omega
theorem mY.len{Kk:List Ps}{b:List Qz}{c:Ps}{a:List Ps}(h:mY Kj Kk b c a):a.length<=5:=by
 rcases h with⟨d,e⟩|⟨_,rfl⟩
 .obtain⟨f,_,_,k,L,i,_,_,rfl⟩:=d;exact e.len (cO f) i.env
 .exact NS _
structure ig (E:Ps->Ps->Prop) (nm:List Ps):Prop where
 asc:nD nm
 all:∀x y,E x y->x∈nm
def bL(E:Ps->Ps->Prop)(nm:List Ps)(p q:Nat):Prop:=∃(hp:p<nm.length) (hq:q<nm.length),E nm[p] nm[q]
variable {best : List Nat} {n p : Nat}
section
variable {E : Ps -> Ps -> Prop} {nm : List Ps}
theorem ig.less(h:ig E nm){q:Nat}(a:p<nm.length)(b:q<nm.length):aR nm[p] nm[q]↔p<q:=by
 have c:=Ob.1 h.asc;constructor
 .intro d;rcases Pd p q with e|e|e
  .exact e
  .subst e;exact Pg d (aQ _)
  .exact Pg d (dW (c q p b a e))
 .exact c p q a b
theorem ig.inj(h:ig E nm){q:Nat}(b:p<nm.length)(c:q<nm.length)(e:nm[p]=nm[q]):p=q:=by
 rcases Pd p q with g|g|g
 .have:=(h.less b c).2 g;rw[e] at this;exact Pg this (aQ _)
 .exact g
 .have:=(h.less c b).2 g;rw[e] at this;exact Pg this (aQ _)
theorem ig.place(h:ig E nm){x y:Ps}(c:E x y):∃(p:Nat) (hp:p<nm.length),nm[p]=x:=Oc (h.all x y c)
theorem qK{q:Nat}(h:aV (bL E nm) n p q)(c:p<nm.length):∃b:q<nm.length,aV E n nm[p] nm[q]:=by
 induction h with
 | here a=>exact⟨c,.here _⟩
 | step h _ ih=>
  obtain⟨_,d,e⟩:=h;obtain⟨b,f⟩:=ih d;exact⟨b,.step e f⟩
theorem ig.back(h:ig E nm):∀{n:Nat} {p q:Nat} (b:p<nm.length) (a:q<nm.length),aV E n nm[p] nm[q]->aV (bL E nm) n p q:=by
 intro n
 induction n with
 | zero=>intro p q b a c;rw[h.inj b a c.zero];exact .here q
 | succ n ih=>
  intro p q b a c;obtain⟨i,j,d⟩:=c.first
  have:∃(r:Nat) (f:r<nm.length),nm[r]=i:=by
   cases n with
   | zero=>exact⟨q,a,d.zero.symm⟩
   | succ m=>
    obtain⟨l,k,_⟩:=d.first
    exact h.place k
  obtain⟨r,f,rfl⟩:=this;exact .step ⟨b,f,j⟩ (ih f a d)
theorem ig.far(h:ig E nm){q:Nat}(b:p<nm.length)(e:q<nm.length):Far (bL E nm) q n p↔Far E nm[q] n nm[p]:=by
 constructor
 .intro a;exact⟨(qK a.1 b).2,λm c d=>a.2 m c (h.back b e d)⟩
 .intro a;exact⟨h.back b e a.1,λm c d=>a.2 m c (qK d b).2⟩
def Bt(p:Nat->Prop)(x:Nat):Prop:=p x/\∀y,p y->x<=y
inductive ma (R:Nat->Nat->Prop) (t:Nat):Nat->Nat->List Nat->Prop
 | stop (a:Nat):ma R t 1 a [a]
 | step {n:Nat} {a x:Nat} {l:List Nat} (h:Bt (λy=>R a y/\Far R t n y) x) (r:ma R t n x l):ma R t (n+1) a (a :: l)
def nameOf(nm:List Ps)(p:Nat):Ps:=nm.getD p ByteArray.empty
theorem jv(a:p<nm.length):nameOf nm p=nm[p]:=by simp[nameOf,List.getD,a]
theorem ma.names(h:ig E nm){t:Nat}(f:t<nm.length){a:Nat}{l:List Nat}(i:ma (bL E nm) t n a l)(b:a<nm.length):ng E nm[t] n nm[a] (l.map (nameOf nm)):=by
 induction i with
 | stop a=>rw[List.map_cons,List.map_nil,jv b];exact .stop _
 | @step n a x l hl r ih=>
  obtain⟨⟨⟨_,c,j⟩,k⟩,p⟩:=hl;rw[List.map_cons,jv b];refine .step ⟨⟨j,(h.far c f).1 k⟩,λy d q=>?_⟩ (ih c);have w:1<=n:=by cases r <;> omega
  obtain⟨m,rfl⟩:∃m,n=m+1:=⟨n-1,A7⟩;obtain⟨z,s,_⟩:=d.2.next;obtain⟨v,e,rfl⟩:=h.place s;have A:=p v ⟨⟨b,e,d.1⟩,(h.far e f).2 d.2⟩;have B:=(h.less e c).1 q;omega
def jU(R:Nat->Nat->Prop)(t n:Nat):Prop:=1<=n/\aV R n t t/\∀m,1<=m->m<n->¬aV R m t t
structure jF (R:Nat->Nat->Prop) (k:Nat) (best:List Nat):Prop where
 no:best=[]->∀t,t<k->∀n,¬jU R t n
 yes:best≠[]->∃t n,t<k/\jU R t n/\ma R t n t best/\best.length=n/\(∀h,h<k->∀j,jU R h j->n<=j/\(h<t->n<j))
theorem jF.start(R:Nat->Nat->Prop):jF R 0 []:=⟨λ_ _t a=>aT a,λh=>Pg rfl h⟩
theorem jU.unique{R:Nat->Nat->Prop}{t m:Nat}(h:jU R t n)(g:jU R t m):n=m:=by
 rcases Pd n m with e|e|e
 .exact Pg h.2.1 (g.2.2 n h.1 e)
 .exact e
 .exact Pg g.2.1 (h.2.2 m g.1 e)
theorem jF.skip{R:Nat->Nat->Prop}{k:Nat}(h:jF R k best)(a:∀n,jU R k n->best≠[]/\best.length<=n):jF R (k+1) best:=by
 refine⟨λe t m n b=>?_,λe=>?_⟩
 .by_cases g:t=k
  .subst g;exact (a n b).1 e
  .exact h.no e t A7 n b
 .obtain⟨t,n,p,d,f,i,l⟩:=h.yes e;refine⟨t,n,A7,d,f,i,λq r j c=>?_⟩;by_cases g:q=k
  .subst g;have:=(a j c).2;exact⟨A7,λs=>A7⟩
  .exact l q A7 j c
theorem jF.take{R:Nat->Nat->Prop}{k:Nat}{l:List Nat}(h:jF R k best)(c:jU R k n)(d:ma R k n k l)(f:l.length=n)(a:best=[]\/n<best.length):jF R (k+1) l:=by
 have i:l≠[]:=by cases d <;> simp
 refine⟨λe=>Pg e i,λ_=>⟨k,n,A7,c,d,f,λq p j b=>?_⟩⟩;by_cases g:q=k
 .subst g;have:=c.unique b;exact⟨A7,λr=>A7⟩
 .rcases a with rfl|a
  .exact Pg b (h.no rfl q A7 j)
  .obtain⟨t,s,v,w,x,y,m⟩:=h.yes (by intro e;rw[e] at a;simp at a);have:=(m q A7 j b).1;exact⟨A7,λ_=>A7⟩
theorem jF.Nk(h:ig E nm)(j:jF (bL E nm) nm.length best):ou E (best.map (nameOf nm)):=by
 have l:∀x n,1<=n->aV E n x x->∃(p:Nat) (a:p<nm.length),nm[p]=x:=λx n f c=>by
  obtain⟨m,rfl⟩:∃m,n=m+1:=⟨n-1,A7⟩;obtain⟨b,j,_⟩:=c.first
  exact h.place j
 have q:∀n p (a:p<nm.length),1<=n->aV E n nm[p] nm[p]->∃m,m<=n/\jU (bL E nm) p m:=by
  intro n
  induction n using Nat.strongRecOn with
  | ind n ih=>
   intro p a f c;by_cases d:∃m,1<=m/\m<n/\aV (bL E nm) m p p
   .obtain⟨m,i,e,r⟩:=d;obtain⟨z,G,A⟩:=ih m e p a i (qK r a).2;exact⟨z,A7,A⟩
   .exact⟨n,NQ _,f,h.back a a c,λm i e r=>d ⟨m,i,e,r⟩⟩
 by_cases s:best=[]
 .refine .inl ⟨λx n f c=>?_,by rw[s];rfl⟩;obtain⟨p,a,rfl⟩:=l x n f c;obtain⟨m,_,d⟩:=q n p a f c;exact j.no s p a m d
 .obtain⟨B,n,k,d,C,_,t⟩:=j.yes s;refine .inr ⟨n,nm[B],d.1,λx v w c=>?_,⟨(qK d.2.1 k).2,λD y F=>?_⟩,C.names h k k⟩
  .obtain⟨p,a,rfl⟩:=l x v w c;obtain⟨m,i,e⟩:=q v p a w c;have:=(t p a m e).1;omega
  .obtain⟨p,a,rfl⟩:=l D n d.1 y;obtain⟨m,i,e⟩:=q n p a d.1 y;have:=(t p a m e).2 ((h.less a k).1 F);omega
end
section
variable (E : Ps -> Ps -> Prop) (g : Ps)
def eB(b:Nat)(x:Ps)(v:Nat):Prop:=(aR x g->v=0)/\(¬aR x g->(v≠0->eF E g v x/\v<b)/\∀m,m<b->eF E g m x->v=m)
end
variable {x : Ps} {n : Nat}
section
variable {E : Ps -> Ps -> Prop} {g : Ps}
theorem eB.start :eB E g 1 x 0:=⟨λ_=>rfl,λ_=>⟨λh=>Pg rfl h,λm d b=>by have:=b.1.pos;omega⟩⟩
theorem eB.keep{v:Nat}(h:eB E g n x v)(a:v≠0\/aR x g):eB E g (n+1) x v:=by
 refine⟨h.1,λb=>?_⟩;rcases a with a | a
 .obtain⟨d,f⟩:=h.2 b;obtain⟨c,i⟩:=d a;exact⟨λ_=>⟨c,A7⟩,λm _ e=>c.unique e⟩
 .exact Pg a b
def Hit(E:Ps->Ps->Prop)(g:Ps)(n:Nat)(x s:Ps):Prop:=E x s/\((n=1/\s=g)\/(1<n/\aR g s/\eF E g (n-1) s))
theorem FO(h:1<=n)(f:∀m,m<n->¬eF E g m x):(∃s,Hit E g n x s)↔eF E g n x:=by
 rcases Nat.lt_or_ge 1 n with d|d
 .obtain⟨q,rfl⟩:∃q,n=q+1:=⟨n-1,A7⟩;rw[eF.succ A7];constructor
  .rintro⟨s,a,⟨b,_⟩|⟨_,b,c⟩⟩
   .omega
   .exact⟨⟨s,a,b,by simpa using c⟩,λm i=>f m A7⟩
  .rintro⟨⟨s,a,b,c⟩,_⟩;exact⟨s,a,.inr ⟨d,b,by simpa using c⟩⟩
 .have:n=1:=A7;subst this;rw[eF.one];constructor
  .rintro⟨s,a,⟨_,rfl⟩|⟨b,_⟩⟩
   .exact a
   .omega
  .intro a;exact⟨g,a,.inl ⟨rfl,rfl⟩⟩
theorem eB.hit(d:1<=n)(h:eB E g n x 0)(c:¬aR x g)(e:∃s,Hit E g n x s):eB E g (n+1) x n:=by
 have f:∀m,m<n->¬eF E g m x:=λm b a=>by
  have:=(h.2 c).2 m b a;have:=a.1.pos;omega
 have a:=(FO d f).1 e;exact⟨λi=>Pg i c,λ_=>⟨λ_=>⟨a,A7⟩,λm _ b=>a.unique b⟩⟩
theorem eB.miss(d:1<=n)(h:eB E g n x 0)(f:¬aR x g)(i:¬∃s,Hit E g n x s):eB E g (n+1) x 0:=by
 have b:∀m,m<n->¬eF E g m x:=λm c a=>by
  have:=(h.2 f).2 m c a;have:=a.1.pos;omega
 refine⟨λ_=>rfl,λ_=>⟨λe=>Pg rfl e,λm c a=>?_⟩⟩;rcases Nat.lt_or_ge m n with e | e
 .exact Pg a (b m e)
 .have:m=n:=A7;subst this;exact Pg ((FO d b).2 a) i
theorem eB.ask{b:Nat}{s:Ps}{v:Nat}(h:eB E g b s v)(c:aR g s)(d:1<n)(f:n<=b):v=n-1↔eF E g (n-1) s:=by
 have a:¬aR s g:=dW c;constructor
 .intro e;have:=((h.2 a).1 A7).1;rw[e] at this;exact this
 .exact (h.2 a).2 (n-1) A7
theorem eB.whole{names:List Ps}(d:∀x y,E x y->x∈names){v:Nat}(h:eB E g (names.length+1) x v)(b:¬aR x g):(v≠0->eF E g v x)/\(∀m,eF E g m x->v=m):=
 ⟨λe=>((h.2 b).1 e).1,λm c=>(h.2 b).2 m (by have:=c.bound d;omega) c⟩
theorem jJ.start(E:Ps->Ps->Prop):jJ E [] []:=⟨λ_ g h=>(by cases h),λh=>Pg rfl h⟩
theorem mE.len{a:Ps}{l:List Ps}(h:mE E g n a l):l.length=n:=by
 induction h with
 | stop=>rfl
 | step _ _ ih=>simp[ih]
theorem jJ.skip{a best:List Ps}(h:jJ E a best){g:Ps}(c:∀n,eF E g n g->best≠[]/\best.length<=n)(j:∀x∈a,aR x g):jJ E (a++ [g]) best:=by
 refine⟨λe x b n d=>?_,λe=>?_⟩
 .rcases N_.1 b with q|q
  .exact h.no e x q n d
  .rw[NZ] at q;subst q;exact (c n d).1 e
 .obtain⟨t,n,f,l,m,p,r⟩:=h.yes e;refine⟨t,n,N_.2 (.inl f),l,m,p,λx b k i=>?_⟩;rcases N_.1 b with q | q
  .exact r x q k i
  .rw[NZ] at q;subst q;have:=(c k i).2;exact⟨A7,λs=>Pg s (dW (j t f))⟩
theorem jJ.take{f best l:List Ps}(h:jJ E f best){g:Ps}(c:eF E g n g)(i:mE E g n g l)(b:best=[]\/n<best.length):jJ E (f++ [g]) l:=by
 have a:=i.len;have j:l≠[]:=λe=>by rw[e] at a;have:=c.1.pos;simp at a;omega
 refine⟨λe=>Pg e j,λ_=>⟨g,n,N_.2 (.inr A9),c,i,a,λx p k d=>?_⟩⟩;rcases N_.1 p with q | q
 .rcases b with rfl|b
  .exact Pg d (h.no rfl x q k)
  .obtain⟨t,m,s,v,w,y,r⟩:=h.yes (by intro e;rw[e] at b;simp at b);have:=(r x q k d).1;exact⟨A7,λ_=>A7⟩
 .rw[NZ] at q;subst q;have:=c.unique d;exact⟨A7,λa=>Pg a (aQ _)⟩
end
variable {l : List Ps}
section
variable {E : Ps -> Ps -> Prop} {g : Ps}
structure oH (E:Ps->Ps->Prop) (g:Ps) (n:Nat) (l:List Ps) (a:Ps) (q:Nat):Prop where
 len:l.length+q=n+1
 pos:1<=q
 far:eF E g q a
 last:∃l0,l=l0++ [a]
 rest:∀r,mE E g q a r->mE E g n g (l.dropLast++r)
theorem oH.start{n:Nat}(h:eF E g n g):oH E g n [g] g n:=
 ⟨D6,h.1.pos,h,⟨[],rfl⟩,λr b=>b⟩
theorem oH.next{n q:Nat}{a x:Ps}(h:oH E g n l a (q+1))(f:1<=q)(c:iC (λy=>E a y/\aR g y/\eF E g q y) x):oH E g n (l++ [x]) x q:=by
 obtain⟨j,d⟩:=h.last;refine⟨by have:=h.len;rw[OD];simp;omega,f,c.1.2.2,⟨l,rfl⟩,λr i=>?_⟩;have e:=h.rest (a :: r) (mE.step c i);rw[List.dropLast_concat];rw[d,List.dropLast_concat] at e;rw[d,List.append_assoc];exact e
theorem oH.done{n:Nat}{a:Ps}(h:oH E g n l a 1):mE E g n g l:=by
 obtain⟨e,c⟩:=h.last;have d:=h.rest [a] (mE.stop a);rw[c,List.dropLast_concat] at d;rw[c];exact d
theorem oH.more{n q:Nat}{a:Ps}(h:oH E g n l a (q+1))(c:1<=q):∃y,E a y/\aR g y/\eF E g q y:=((eF.succ c).1 h.far).1
theorem Dt{p:Ps->Prop}(d:nD l)(e:∀y,p y->y∈l){k:Nat}(f:k<l.length)(h:p l[k])(i:∀y∈l.take k,¬p y):iC p l[k]:=by
 refine⟨h,λy a b=>?_⟩;obtain⟨j,m,rfl⟩:=Oc (e y a);rcases Pd j k with c | rfl | c
 .exact i l[j] (by rw[List.mem_take_iff_getElem];exact⟨j,A7,rfl⟩) a
 .exact aQ _ b
 .exact dW b (Ob.1 d k j f m c)
end
def uK(Kj:List Qq)(Kk:List Ps)(sl:List Qz)(ns:List Ps):Prop:=ns.length<=60/\((fK Kj Kk sl/\ou (bg (Q_ Kj) (Qj sl)) ns)\/(¬fK Kj Kk sl/\ns=[]))
theorem jJ.len{E:Ps->Ps->Prop}{names best:List Ps}(h:jJ E names best)(a:∀x y,E x y->x∈names):best.length<=names.length:=by
 by_cases e:best=[]
 .rw[e];exact NS _
 .obtain⟨t,n,_,b,_,c,_⟩:=h.yes e;have:=b.bound a;omega
structure But (S:Nat->Prop) (w w':Pv):Prop where
 os:w'.os=w.os
 tape:w'.tape=w.tape
 output:w'.output=w.output
 size:w.heap.size<=w'.heap.size
 block:∀b,b<w.heap.size->¬S b->w'.heap[b]? =w.heap[b]?
variable {b base n : Nat} {t : TypeId}
section
variable {S : Nat -> Prop} {w w' w'' wz : Pv}
theorem But.au(h:K_ w w'):But S w w':=⟨h.os,h.tape,h.output,h.size,λb c _=>h.block b c⟩
theorem But.aI{row:Option Nat}(h:w.grownBy w' row)(c:∀b,row=some b->S b):But S w w':=⟨h.os,h.tape,h.output,h.size,λb d e=>h.block b d (λf=>e (c b f.symm))⟩
theorem But.trans(h:But S w w')(k:But S w' w''):But S w w'':=⟨k.os.trans h.os,k.tape.trans h.tape,k.output.trans h.output,NT h.size k.size,λb c d=>(k.block b (NR c h.size) d).trans (h.block b c d)⟩
theorem But.set(h:But S w w'){p:Addr}(c:S p.block)(v:Pw):But S w (w'.setCell p v):=⟨h.os,h.tape,h.output,by rw[size_setCell];exact h.size,λd e b=>by rw[Below.heap_setCell _ _ _ _ (λf=>b (by rw[f];exact c))];exact h.block d e b⟩
theorem But.mono{a:Nat->Prop}(h:But S w w')(d:∀b,b<w.heap.size->S b->a b):But a w w':=⟨h.os,h.tape,h.output,h.size,λb c e=>h.block b c (λf=>e (d b c f))⟩
theorem But.kept(h:But S w w')(k:K_ wz w)(d:∀b,S b->wz.heap.size<=b):K_ wz w':=
 ⟨h.os.trans k.os,h.tape.trans k.tape,h.output.trans k.output,NT k.size h.size,λb c=>(h.block b (NR c k.size) (λe=>by have:=d b e;omega)).trans (k.block b c)⟩
theorem But.cell(h:But S w w'){o:Nat}(c:b<w.heap.size)(d:¬S b):w'.cell? ⟨b,o,none⟩=w.cell? ⟨b,o,none⟩:=Od (w:=w) (h.block b c d)
theorem But.row(h:But S w w')(a:aB w b t n)(d:¬S b):aB w' b t n:=a.block (h.block b a.lt d)
theorem But.range(h:But S w w'){o:Nat}(c:aB w b t n)(d:¬S b){cs:List Pw}(e:w.rangeAt b o cs):w'.rangeAt b o cs:=λj v i=>(h.cell c.lt d).trans (e j v i)
theorem But.owns(h:But S w w'){size:Nat}{e:TypeId}{v:Pw}{a:List Pw}(c:w.ownsRow base e size v n a)(f:∀b,v.ownBlock=some b->¬S b):w'.ownsRow base e size v n a:=by
 refine⟨c.1, ?_⟩;rcases c.2 with i|⟨g,j,k,rfl,l,d,rest⟩
 .exact .inl i
 .exact .inr ⟨g,j,k,rfl,l,by rw[h.block g (aO d) (f g rfl)];exact d,rest⟩
end
def bf(w:Pv)(b:Nat)(t:TypeId):Prop:=∃cur fr,w.heap[b]? =some (Obj.cells cur t fr)
variable {w : Pv}
theorem aB.type(h:aB w b t n):bf w b t:=let ⟨cur,h1,_⟩:=h;⟨cur,_,h1⟩
theorem Yz{size:Nat}{e:TypeId}{v:Pw}{c:List Pw}(h:w.ownsRow base e size v n c)(a:v.ownBlock=some b):bf w b e:=by
 rcases h.2 with⟨rfl,_⟩|⟨g,i,d,rfl,_,f,_⟩
 .cases a
 .simp only[Value.ownBlock,OE] at a;subst a;exact⟨d,_,f⟩
theorem aK{c:Nat}{u:TypeId}(h:bf w b t)(k:bf w c u)(d:t≠u):b≠c:=by
 rintro rfl;obtain⟨f,i,e⟩:=h;obtain⟨j,l,a⟩:=k;rw[e] at a;simp only[OE,Obj.cells.injEq] at a;exact d a.2.1
structure Zx where
 tb:Nat
 r:Qz
 cost:Int
 steps:List Xj
 sa:Pt
 sc:Nat
 op:Nat
 tv:Pw
 qv:Pw
 qs:List Pw
 bl:Ps
def Zx.cells(t:Zx):List Pw:=[.string t.r.name,.bool t.r.over,.bool t.r.fail,.string t.r.text,.a t.r.at',.a t.r.Zj,t.tv,.a t.cost,.slice t.sa t.steps.length t.sc,.a (t.op:Int),t.qv,.string t.bl]
def Zx.ptr(t:Zx):Pw:= .c t.tb
def Zx.own(t:Zx):List Nat:=t.tv.ownBlock.toList++t.qv.ownBlock.toList
def lM(b:Nat):Pw:= .c b
structure kZ (base:Nat) (w:Pv) (t:Zx):Prop where
 row:aB w t.tb 75 12
 rng:w.rangeAt t.tb 0 t.cells
 txt:w.ownsRow base 9 1 t.tv t.r.texts.length (t.r.texts.map Value.string)
 ask:w.ownsRow base 9 1 t.qv t.qs.length t.qs
 low:base<=t.tb
theorem kZ.bH{t:Zx}(h:kZ base w t){x:Nat}(a:x∈t.own):bf w x 9/\base<=x/\x<w.heap.size:=by
 unfold Zx.own at a;rcases N_.1 a with a|a
 .have e:=Oz.1 a;exact⟨Yz h.txt e,h.txt.lt x e⟩
 .have e:=Oz.1 a;exact⟨Yz h.ask e,h.ask.lt x e⟩
variable {S : Nat -> Prop} {w' : Pv}
theorem kZ.but{t:Zx}(h:kZ base w t)(k:But S w w')(d:¬S t.tb)(h2:∀x∈t.own,¬S x):kZ base w' t:=
 ⟨k.row h.row d,k.range h.row d h.rng,k.owns h.txt (λb c=>h2 b (N_.2 (.inl (Oz.2 c)))),k.owns h.ask (λb c=>h2 b (N_.2 (.inr (Oz.2 c)))),h.low⟩
def asIs(v:Pw):Option (DataW Pw×List MemPlace):=some (.held v,[])
def a_(s:Ps):Lit:= .string s.data.toList
def Qk(ts:List Zx):List Qz:=ts.map (·.r)
structure bV where
 wo:Pv
 K:Nat->Prop
 ps:List (Nat×Ps)
 I:Nat->Prop
def bV.no(w:Pv):bV:=⟨w,λ_=>False,[],λ_=>False⟩
structure Fen (G:bV) (w:Pv) (bb mb:Nat) (ts:List Zx) (f:Ps->Pw):Prop where
 size:G.wo.heap.size<=w.heap.size
 lt:∀k,G.K k->k<G.wo.heap.size
 same:∀k,G.K k->w.heap[k]? =G.wo.heap[k]?
 nb:¬G.K bb
 nm:¬G.K mb
 nt:∀t∈ts,¬G.K t.tb/\∀x∈t.own,¬G.K x
 nf:∀s x,(f s).ownBlock=some x->¬G.K x
 has:∀p∈G.ps,∃t∈ts,t.tb=p.1/\t.r.name=p.2
variable {mb : Nat}
theorem Fen.but{G:bV}{bb:Nat}{ts:List Zx}{f:Ps->Pw}(h:Fen G w bb mb ts f)(k:But S w w')(d:∀b,S b->¬G.K b):Fen G w' bb mb ts f:=
 ⟨NT h.size k.size,h.lt,λb c=>(k.block b (NR (h.lt b c) h.size) (λe=>d b e c)).trans (h.same b c),h.nb,h.nm,h.nt,h.nf,h.has⟩
theorem Fen.far{G:bV}{bb:Nat}{ts:List Zx}{f:Ps->Pw}(h:Fen G w bb mb ts f){x:Nat}(c:w.heap.size<=x):¬G.K x:=λb=>by
 have d:=h.lt x b;have e:=h.size;omega
theorem Fen.no{bb:Nat}{ts:List Zx}{f:Ps->Pw}(h:w.heap.size<=w'.heap.size):Fen (bV.no w) w' bb mb ts f:=
 ⟨h,λ_ e=>e.elim,λ_ e=>e.elim,id,id,λ_ _=>⟨id,λ_ _=>id⟩,λ_ _ _=>id,λ_ h=>(by cases h)⟩
structure BM (G:bV) (Kj:List Qq) (wz w:Pv) (bb:Nat) (a:Pt) (cap:Nat) (rd:Pt) (rn rc:Nat) (mb mx:Nat) (ts:List Zx) (d:Pt) (dc:Nat) (f:Ps->Pw) (ws:Ps->List Nat):Prop where
 kw:K_ wz w
 row:aB w bb 123 6
 c0:w.cell? ⟨bb,0,none⟩=some (.slice a Kj.length cap)
 c1:w.cell? ⟨bb,1,none⟩=some (.func (.func 99) #[] #[])
 c2:w.cell? ⟨bb,2,none⟩=some (.slice rd rn rc)
 c3:w.cell? ⟨bb,3,none⟩=some (.slice d ts.length dc)
 c4:w.cell? ⟨bb,4,none⟩=some (.func (.func 55) #[] #[])
 c5:w.cell? ⟨bb,5,none⟩=some (.map (some mb))
 low:wz.heap.size<=bb
 items:w.ownsRow wz.heap.size 70 1 (.slice d ts.length dc) ts.length (ts.map Zx.ptr)
 fE:∀t∈ts,kZ wz.heap.size w t
 act:∀t∈ts,Q_ Kj t.r.name=some ⟨t.cost,t.steps⟩/\Steps wz t.sa t.steps
 asc:dz (Qk ts)
 tbs:(ts.map (·.tb)).Nodup
 sep:ts.Pairwise λt u=>∀x∈t.own,x∉u.own
 zW:∀t∈ts,t.own.Nodup
 map:∃N D,N<=mx/\w.ownsMap prog 9 asIs mb N D/\∀s:Ps,s.size<=maxLen->D.atKey (a_ s) (.held J3)= .held (f s)
 Ci:wz.heap.size<=mb
 jg:∀s,w.ownsRow wz.heap.size 70 1 (f s) (ws s).length ((ws s).map lM)
 zU:∀s s',s≠s'->∀x,(f s).ownBlock=some x->(f s').ownBlock≠some x
 Ck:∀s x,(f s).ownBlock=some x->(Value.slice d ts.length dc).ownBlock≠some x
 qb:∀t∈ts,t.qs.length<=5*mx
 oth:Fen G w bb mb ts f
 gi:∀x,(Value.slice d ts.length dc).ownBlock=some x->¬(G.I x/\G.K x)
theorem dN{N:Nat}{D:DataW Pw}(h:w.ownsMap prog 9 asIs mb N D)(k:But S w w')(d:¬S mb):w'.ownsMap prog 9 asIs mb N D:=by
 obtain⟨e,f,b,F,i,j⟩:=h;exact⟨e,f,by rw[k.block mb (aO b) d];exact b,F,i,j⟩
theorem gV{N:Nat}{D:DataW Pw}(h:w.ownsMap prog 9 asIs mb N D)(k:bf w b t):b≠mb:=by
 rintro rfl;obtain⟨d,e,c,_⟩:=h;obtain⟨f,i,a⟩:=k;rw[c] at a;cases a
section
variable {G : bV} {Kj : List Qq} {wz w w' : Pv} {bb : Nat} {a : Pt} {cap : Nat} {rd : Pt} {rn rc : Nat} {mb mx : Nat} {ts : List Zx} {d : Pt} {dc : Nat} {f : Ps -> Pw} {ws : Ps -> List Nat}
theorem BM.but(h:BM G Kj wz w bb a cap rd rn rc mb mx ts d dc f ws)(k:But S w w')(l:∀b,S b->wz.heap.size<=b)(c:¬S bb)(h2:¬S mb)(m:∀b,(Value.slice d ts.length dc).ownBlock=some b->¬S b)(n:∀s b,(f s).ownBlock=some b->¬S b)(j:∀t∈ts,¬S t.tb/\∀x∈t.own,¬S x)(p:∀b,S b->¬G.K b):BM G Kj wz w' bb a cap rd rn rc mb mx ts d dc f ws:=by
 have e:=h.row.lt;refine⟨k.kept h.kw l,k.row h.row c,(k.cell e c).trans h.c0,(k.cell e c).trans h.c1,(k.cell e c).trans h.c2,(k.cell e c).trans h.c3,(k.cell e c).trans h.c4,(k.cell e c).trans h.c5,h.low,k.owns h.items m,λt i=>(h.fE t i).but k (j t i).1 (j t i).2,h.act,h.asc,h.tbs,h.sep,h.zW, ?_,h.Ci,λs=>k.owns (h.jg s) (n s),h.zU,h.Ck,h.qb,h.oth.but k p,h.gi⟩;obtain⟨N,D,q,r,v⟩:=h.map;exact⟨N,D,q,dN r k h2,v⟩
theorem BM.kept(h:BM G Kj wz w bb a cap rd rn rc mb mx ts d dc f ws)(k:K_ w w'):BM G Kj wz w' bb a cap rd rn rc mb mx ts d dc f ws:=
 h.but (S:=λ_=>False) (But.au k) (λ_ h=>h.elim) id id (λ_ _=>id) (λ_ _ _=>id) (λ_ _=>⟨id,λ_ _=>id⟩) (λ_ h=>h.elim)
theorem BM.more{c:Nat}(h:BM G Kj wz w bb a cap rd rn rc mb mx ts d dc f ws)(e:mx<=c):BM G Kj wz w bb a cap rd rn rc mb c ts d dc f ws:=
 ⟨h.kw,h.row,h.c0,h.c1,h.c2,h.c3,h.c4,h.c5,h.low,h.items,h.fE,h.act,h.asc,h.tbs,h.sep,h.zW,(by obtain⟨N,D,j,k⟩:=h.map;exact⟨N,D,NT j e,k⟩),h.Ci,h.jg,h.zU,h.Ck,λt m=>NT (h.qb t m) (Nat.mul_le_mul_left 5 e),h.oth,h.gi⟩
theorem bU{α:Type}{l:List α}{i:Nat}(h:i<l.length):l[i]∈l:=Oa h
theorem pR{t':Zx}{i:Nat}(_hi:i<ts.length):Qk (ts.set i t')= (Qk ts).set i t'.r:=by simp[Qk,List.map_set]
theorem Be{l:List Qz}{i:Nat}{b:Qz}(h:dz l)(hi:i<l.length)(c:b.name=l[i].name):dz (l.set i b):=by
 unfold dz at h⊢;rw[Ob] at h⊢;intro p q d f k;rw[OZ] at d f;rw[Pq,Pq];have:=h p q d f k
 split <;> split
 .omega
 .rename_i e _;subst e;rw[c];exact this
 .rename_i _ e;subst e;rw[c];exact this
 .exact this
theorem BM.turn(h:BM G Kj wz w bb a cap rd rn rc mb mx ts d dc f ws){i:Nat}(hi:i<ts.length)(k:But S w w')(y:∀b,S b->b=ts[i].tb\/b∈ts[i].own){t':Zx}(W:kZ wz.heap.size w' t')(D:t'.tb=ts[i].tb)(I:t'.r.name=ts[i].r.name)(J:t'.cost=ts[i].cost)(X:t'.steps=ts[i].steps)(Y:t'.sa=ts[i].sa)(L:∀x∈t'.own,x∈ts[i].own\/w.heap.size<=x)(Z:t'.own.Nodup)(a0:t'.qs.length<=5*mx):BM G Kj wz w' bb a cap rd rn rc mb mx (ts.set i t') d dc f ws:=by
 have z:=h.row.lt;have q:=h.fE ts[i] (bU hi);have s:(ts.set i t').length=ts.length:=OZ ..;have M:∀{b:Nat} {u:TypeId},bf w b u->u≠75->u≠9->¬S b:=λl h1 h2 n=>by
  rcases y _ n with e|e
  .exact aK l q.row.type h1 e
  .exact aK l (q.bH e).1 h2 rfl
 have hm:=h.map;obtain⟨a1,a2,hN,N,hf⟩:=hm;have a3:¬S mb:=λn=>by
  rcases y _ n with e|e
  .exact gV N q.row.type e.symm
  .exact gV N (q.bH e).1 rfl
 have t:¬S bb:=M h.row.type A8 A8;have other:∀(j:Nat) (c:j<ts.length),j≠i->¬S ts[j].tb/\∀x∈ts[j].own,¬S x:=λj c p=>by
  have Q:=h.fE ts[j] (bU c);refine⟨λn=>?_,λx m n=>?_⟩
  .rcases y _ n with e|e
   .have R:=Ob.1 h.tbs;rcases Nat.lt_or_gt_of_ne p with v|v
    .have:=R j i (by simpa using c) (by simpa using hi) v;simp at this;exact this e
    .have:=R i j (by simpa using hi) (by simpa using c) v;simp at this;exact this e.symm
   .exact aK Q.row.type (q.bH e).1 A8 rfl
  .rcases y _ n with e|e
   .exact aK (Q.bH m).1 q.row.type A8 e
   .have A:=Ob.1 h.sep;rcases Nat.lt_or_gt_of_ne p with v|v
    .exact A j i c hi v x m e
    .exact A i j hi c v x e m
 have mem:∀u∈ts.set i t',u=t'\/∃(j:Nat) (c:j<ts.length),j≠i/\u=ts[j]:=λu l=>by
  obtain⟨j,c,rfl⟩:=Oc l;rw[s] at c;rw[Pq]
  split
  .exact .inl rfl
  .rename_i e;exact .inr ⟨j,c,Ne.symm e,rfl⟩
 have a4:∀b,S b->wz.heap.size<=b:=λb n=>by
  rcases y b n with e|e
  .rw[e];exact q.low
  .exact (q.bH e).2.1
 have a5:∀b,S b->¬G.K b:=λb n=>by
  rcases y b n with e|e
  .rw[e];exact (h.oth.nt _ (bU hi)).1
  .exact (h.oth.nt _ (bU hi)).2 b e
 have a6:Fen G w' bb mb (ts.set i t') f:=by
  have B:=h.oth.but k a5;refine⟨B.size,B.lt,B.same,B.nb,B.nm,λu l=>?_,B.nf,λE C=>?_⟩;rotate_left
  .obtain⟨u,l,T,F⟩:=h.oth.has E C;obtain⟨j,c,rfl⟩:=Oc l;by_cases e:j=i
   .subst e;exact⟨t',List.mem_set c _,by rw[D];exact T,by rw[I];exact F⟩
   .refine⟨ts[j], ?_,T,F⟩;have J:(ts.set i t')[j]'(by rw[s];exact c)=ts[j]:=by rw[Pq,Pf (Ne.symm e)]
    rw[<-J];exact Oa _
  rcases mem u l with rfl|⟨j,c,p,rfl⟩
  .refine⟨by rw[D];exact (h.oth.nt _ (bU hi)).1,λx m=>?_⟩;rcases L x m with g | g
   .exact (h.oth.nt _ (bU hi)).2 x g
   .exact h.oth.far g
  .exact h.oth.nt _ (bU c)
 refine⟨k.kept h.kw a4,k.row h.row t,(k.cell z t).trans h.c0,(k.cell z t).trans h.c1,(k.cell z t).trans h.c2,by rw[s];exact (k.cell z t).trans h.c3,(k.cell z t).trans h.c4,(k.cell z t).trans h.c5,h.low, ?_, ?_, ?_, ?_, ?_, ?_, ?_,⟨a1,a2,hN,dN N k a3,hf⟩,h.Ci,λU=>k.owns (h.jg U) (λb e=>M (Yz (h.jg U) e) A8 A8),h.zU,by rw[s];exact h.Ck,λu l=>by rcases mem u l with rfl | ⟨j,c,p,rfl⟩;exact a0;exact h.qb _ (bU c),a6,by rw[s];exact h.gi⟩
 .have e:(ts.set i t').map Zx.ptr=ts.map Zx.ptr:=by
   rw[List.map_set];have O:t'.ptr= (ts.map Zx.ptr)[i]'(by simpa using hi):=by simp[Zx.ptr,D]
   rw[O,List.set_getElem_self]
  rw[s,e];exact k.owns h.items (λb e=>M (Yz h.items e) A8 A8)
 .intro u l;rcases mem u l with rfl|⟨j,c,p,rfl⟩
  .exact W
  .exact (h.fE _ (bU c)).but k (other j c p).1 (other j c p).2
 .intro u l;rcases mem u l with rfl|⟨j,c,p,rfl⟩
  .rw[I,J,X,Y];exact h.act _ (bU hi)
  .exact h.act _ (bU c)
 .rw[pR hi];exact Be h.asc (by simpa[Qk] using hi) (by simp[Qk,I])
 .have e:(ts.set i t').map (·.tb)=ts.map (·.tb):=by
   rw[List.map_set];have O:t'.tb= (ts.map (·.tb))[i]'(by simpa using hi):=by simp[D]
   rw[O,List.set_getElem_self]
  rw[e];exact h.tbs
 .rw[Ob];have A:=Ob.1 h.sep;intro E V C H P x m;rw[s] at C H;rw[Pq] at m⊢
  split at m
  .rename_i e
   subst e;rw[Pf A7];rcases L x m with g|g
   .exact A i V hi H P x g
   .intro F;have:=((h.fE _ (bU H)).bH F).2.2;omega
  .split
   .rename_i e
    subst e;intro g;rcases L x g with g|g
    .exact A E i C hi P x m g
    .have:=((h.fE _ (bU C)).bH m).2.2;omega
   .exact A E V C H P x m
 .intro u l;rcases mem u l with rfl|⟨j,c,p,rfl⟩
  .exact Z
  .exact h.zW _ (bU c)
end
def Bg(W:bR)(r:Qz)(bl:Ps):Prop:=
 (bl= ⟨#[]⟩/\(r.over=true->r.fail=true->r.text=gX\/∃A,W r.name=some A/\(stepOf A r.at').fin=true))\/
 (r.over=true/\r.fail=true/\(∃A,W r.name=some A/\(stepOf A r.at').fin=false/\bl∈(stepOf A r.at').asks)/\r.text= (⟨#[98,101,108,111,119,32]⟩:Ps)++bl)
variable {W : bR} {r : Qz}
theorem Bg.open{b:Ps}(h:Bg W r b)(c:r.over=false):b= ⟨#[]⟩:=by
 rcases h with h|⟨h,_⟩
 .exact h.1
 .rw[c] at h;cases h
theorem Bg.still{a:Ps}(c:a= ⟨#[]⟩)(d:r.over=false):Bg W r a:= .inl ⟨c,λh=>by rw[d] at h;cases h⟩
def xM(W:bR)(σ:Env)(r:Qz)(qs:List Pw):Prop:=∃L,kF W σ r L/\qs=L.map Value.string
theorem xM.mono{σ:Env}{m:Ps}{a:List Pw}(h:xM W σ r a)(c:bi W σ m):xM W (doX W σ m) r a:=by
 obtain⟨L,e,f⟩:=h;exact⟨L,e.mono c,f⟩
theorem xM.unit{σ:Env}{a:List Pw}(h:xM W σ r a)(c:aZ W σ r):xM W σ (Y_ W σ r).1 (a++ (Y_ W σ r).2.map Value.string):=by
 obtain⟨L,d,e⟩:=h;exact⟨_,d.unit c,by rw[e,Pi]⟩
theorem xM.still{σ:Env}{a:List Pw}(b:a=[])(c:r=Qz.fresh r.name):xM W σ r a:=⟨[],by rw[c];exact kF.start _,b⟩
def Zx.bq(t:Zx):Ps×List Pw:=(t.bl,t.qs)
structure BS (Kj:List Qq) (ts:List Zx) (ws:Ps->List Nat):Prop where
 good:dR Kj (Qk ts)
 op:∀t∈ts,t.op= (pend (Q_ Kj) (Qj (Qk ts)) t.r).length
 wt:∀s,∀t∈ts,(t.tb∈ws s↔s∈pend (Q_ Kj) (Qj (Qk ts)) t.r)
 wn:∀s,(ws s).Nodup
 ww:∀s b,b∈ws s->∃t∈ts,t.tb=b
 bl:∀t∈ts,Bg (Q_ Kj) t.r t.bl
 qs:∀t∈ts,xM (Q_ Kj) (Qj (Qk ts)) t.r t.qs
def kD(w:Pv)(xs:List Pw)(l:List Qq):Prop:=
 xs.length=l.length/\∀i,i<l.length->∃tb cur fr,xs[i]? =some (.c tb)/\w.heap[tb]? =some (Obj.cells cur 75 fr)/\w.cell? ⟨tb,0,none⟩=some (.string (l.getD i Qq.zero).name)
theorem kD.kept{w w':Pv}{b:List Pw}{l:List Qq}(h:kD w b l)(k:K_ w w'):kD w' b l:=
 ⟨h.1,λi d=>by
  obtain⟨c,e,f,j,a,m⟩:=h.2 i d;exact⟨c,e,f,j,by rw[k.block c (aO a)];exact a,(k.cell (aO a)).trans m⟩⟩
def uD(w:Pv)(a:Pt)(xs:List Pw):Prop:=∀i,i<xs.length->∃b o,a=some ⟨b,o,none⟩/\b<w.heap.size/\∀j u,xs[j]? =some u->w.cell? ⟨b,o+j,none⟩=some u
theorem uD.kept{w w':Pv}{a:Pt}{b:List Pw}(h:uD w a b)(k:K_ w w'):uD w' a b:=by
 intro i d;obtain⟨f,o,e,c,j⟩:=h i d;exact⟨f,o,e,NR c k.size,λl u m=>(k.cell c).trans (j l u m)⟩
theorem eD{w:Pv}{base n:Nat}{t:TypeId}{a:Pt}{cap:Nat}{b:List Pw}(h:w.ownsRow base t 1 (.slice a n cap) n b):uD w a b:=by
 have j:b.length=n:=by have:=h.1;omega
 rcases h.2 with⟨e,k⟩|⟨g,l,m,e,p,c,q,_,_,_⟩
 .exact λi d=>A7
 .simp only[OG] at e;obtain⟨rfl,_,rfl⟩:=e;refine λi d=>⟨g,0,rfl,aO c,λr u f=>?_⟩
  have:=h.cells (g:=g) rfl _ _ f;rw[OI] at this;exact this
theorem wV(w:Pv)(tb:Nat)(n:Ps)(a:w.cell? ⟨tb,0,none⟩=some (.string n)):
  Calls prog 55 #[.c tb] w λe w'=>e= .returned (.string n)/\w'=w:=by
 go_enter func55,ntmps55
 go_wp2
 go_ret
 exact⟨rfl,rfl⟩
theorem sO(w:Pv)(g:Nat)(n:Ps)(tb:Nat)(a:Ps)(c:g<w.heap.size)(d:tb<w.heap.size)(b:w.cell? ⟨tb,0,none⟩=some (.string n))(f:w.cell? ⟨g,1,none⟩=some (.func (.func 55) #[] #[])):
  Calls prog 195 #[.c tb,.string a,.c g] w λe w'=>e= .returned (.a (kV n.toList a.toList))/\K_ w w':=by
 go_enter func195,ntmps195
 go_wp2_with fail
 refine (wV _ tb n b).mono ?_;rintro e h ⟨rfl,rfl⟩;go_wp2_with fail
 refine (qA _ n a).mono ?_;rintro e i ⟨rfl,rfl⟩;go_wp2
 go_ret
 exact⟨rfl,K_.refl _⟩
theorem Eh(w:Pv)(g:Nat)(a:Pt)(cap:Nat)(l:List Qq)(c:Ps)(hl:l.length<=1048576)(Q:dI l)(C:g<w.heap.size)(R:w.cell? ⟨g,1,none⟩=some (.func (.func 55) #[] #[]))(S:List Pw)(D:kD w S l)(T:uD w a S):
  Calls prog 194 #[.slice a l.length cap,.string c,.func (.func 195) #[] #[.c g]] w
   λe w'=>Found l c.toList e/\K_ w w':=by
 have U:=Kz Q;clear Q;go_enter func194,ntmps194
 go_wp2
 go_loopw [9,10] (λH I wr=>∃i j:Nat,H= .a i/\I= .a j/\i<=j/\j<=l.length/\(∀t,t<i->Op.bytesLess (nameAt l t) c.toList=true)/\(∀t,j<=t->t<l.length->Op.bytesLess (nameAt l t) c.toList=false)/\K_ w wr) (λH I _=>(intOf I).toNat-(intOf H).toNat)
 case atStart=>exact⟨0,l.length,rfl,rfl,NS _,NQ _,λt V=>aT V,λt h1 W=>A7,K_.refl _⟩
 case round=>
  obtain⟨i,j,rfl,rfl,a6,X,p,q,d⟩:=hrel;have r:=Kz (And.intro p q);clear p q;by_cases a7:(i:Int)<j
  .obtain⟨h,Y⟩:∃h:Nat,h= (i+j) / 2:=⟨_,rfl⟩;have J:h<l.length:=A7;have a1:i<=h:=A7;have a8:h<j:=A7;obtain⟨b,o,rfl,hb,s⟩:=T.kept d h (by rw[D.1];exact J);obtain⟨v,a2,fr,x,y,k⟩:=(D.kept d).2 h J;obtain⟨f,m⟩:=ai (l.getD h Qq.zero);rw[<-m] at k;have K:=Kz m;have L:=s _ _ x;have z:J4 wr v 0 (.string f.name):=k;have M:=aO y;clear m s k x y;have a9:((i:Int)+ (j:Int)) / 2= (h:Int):=A7;have HH:=Kz Y;clear Y;have N:g<wr.heap.size:=NR C d.size;have O:wr.cell? ⟨g,1,none⟩=some (.func (.func 55) #[] #[]):=by rw[d.cell C];exact R
   go_wp2_with fail
   refine (sO _ g f.name v c N M z O).mono ?_;rintro e w1 ⟨rfl,A⟩;have B:nameAt l h=f.name.toList:=by unfold nameAt;rw[<-K.o]
   have E:Hid (kV f.name.toList c.toList<0↔Op.bytesLess (nameAt l h) c.toList=true):=by rw[B];exact xK
   clear L z B;generalize kV f.name.toList c.toList=Z at *;have F:=d.trans A;clear d A;by_cases a3:Z<0
   .go_wp2
    go_roundw
    case rel=>
     obtain⟨p,q⟩:=r.o;refine⟨h+1,j,C8,rfl,A7,X,λt V=>?_,q,F⟩;have n:=E.o.1 a3;by_cases e:t=h
     .subst e;exact n
     .exact fC _ _ _ (U.o t h A7 J) n
    case measure=>simp[intOf];omega
   .go_wp2
    go_roundw
    case rel=>
     obtain⟨p,q⟩:=r.o;refine⟨i,h,rfl,C8,a1,A7,p,λt h1 W=>?_,F⟩;have n:Op.bytesLess (nameAt l h) c.toList=false:=by
      cases P:Op.bytesLess (nameAt l h) c.toList
      .rfl
      .have:=E.o.2 P;omega
     by_cases e:t=h
     .subst e;exact n
     .cases P:Op.bytesLess (nameAt l t) c.toList
      .rfl
      .rw[fC _ _ _ (U.o h t A7 W) P] at n;cases n
    case measure=>simp[intOf];omega
  .have a4:i=j:=A7;subst a4;have a0:Hid (Place l c.toList i):=⟨X,r.o.1,r.o.2⟩;clear r;by_cases G:i<l.length
   .obtain⟨b,o,rfl,hb,s⟩:=T.kept d i (by rw[D.1];exact G);obtain⟨v,a2,fr,x,y,k⟩:=(D.kept d).2 i G;obtain⟨f,m⟩:=ai (l.getD i Qq.zero);rw[<-m] at k;have K:=Kz m;have L:=s _ _ x;have z:J4 wr v 0 (.string f.name):=k;have M:=aO y;clear m s k x y;have N:g<wr.heap.size:=NR C d.size;have O:wr.cell? ⟨g,1,none⟩=some (.func (.func 55) #[] #[]):=by rw[d.cell C];exact R
    have a5:(i:Int)<l.length:=A7;go_wp2_with fail
    refine (sO _ g f.name v c N M z O).mono ?_;rintro e w1 ⟨rfl,A⟩;have B:nameAt l i=f.name.toList:=by unfold nameAt;rw[<-K.o]
    have E:Hid (kV f.name.toList c.toList=0↔nameAt l i=c.toList):=by rw[B];exact uM
    clear L z B;generalize kV f.name.toList c.toList=Z at *;have F:=d.trans A;clear d A;go_wp2
    go_ret2
    refine⟨Found.mk i _ rfl a0.o ?_,F⟩;rw[<-E.o];simp[G]
   .have a5:¬(i:Int)<l.length:=A7;go_wp2
    go_ret2
    exact⟨Found.mk i false rfl a0.o (by simp;intro h;exact Pg h G),d⟩
theorem Ac(w:Pv)(a:Pt)(cap:Nat)(l:List Qq)(b:Ps)(i:l.length<=1048576)(j:dI l)(c:List Pw)(k:kD w c l)(m:uD w a c):
  Calls prog 165 #[.agg #[.slice a l.length cap,.func (.func 55) #[] #[]],.string b] w
   λe w'=>Found l b.toList e/\K_ w w':=by
 have d:K_ w (w.alloc (.cells #[.slice a l.length cap,.func (.func 55) #[] #[]] 121)):=ah _ _;go_enter func165,ntmps165
 go_wp2_with fail
 refine (Eh _ w.heap.size a cap l b i j A9 A9 c (k.kept d) (m.kept d)).mono ?_;rintro e v ⟨n,p⟩;obtain⟨q,r,rfl,f,h⟩:=n;have⟨s,t⟩:=aH f h;clear f h;go_wp2
 go_ret2
 exact⟨Found.mk q r rfl s.o t.o,d.trans p⟩
def iX(ts:List Zx):List Qq:=ts.map λt=>⟨t.r.name,0,[]⟩
theorem ek(ts:List Zx):(iX ts).length=ts.length:=by simp[iX]
theorem iJ{ts:List Zx}{i:Nat}(h:i<ts.length):((iX ts).getD i Qq.zero).name=ts[i].r.name:=by simp[iX,List.getD,h]
theorem uj{ts:List Zx}(h:dz (Qk ts)):dI (iX ts):=λi j e a=>by
 rw[ek] at a;unfold nameAt;rw[iJ A7,iJ a];have:=Ob.1 h i j (by simp[Qk];omega) (by simpa[Qk] using a) e;unfold aR at this;simpa[Qk] using this
section
variable {G : bV} {Kj : List Qq} {wz w w' : Pv} {bb : Nat} {a : Pt} {cap : Nat} {rd : Pt} {rn rc : Nat} {mb mx : Nat} {ts : List Zx} {d : Pt} {dc : Nat} {f : Ps -> Pw} {ws : Ps -> List Nat}
theorem BM.packed(h:BM G Kj wz w bb a cap rd rn rc mb mx ts d dc f ws):kD w (ts.map Zx.ptr) (iX ts):=
 ⟨by simp[iX],λi b=>by
  rw[ek] at b;have c:=h.fE ts[i] (Oa b);obtain⟨e,j,_⟩:=c.row;exact⟨ts[i].tb,e,_,by simp[b,Zx.ptr],j,by rw[iJ b];exact c.rng 0 _ rfl⟩⟩
def Ke(ts:List Zx)(n:Ps)(e:Ending):Prop:=(∃(i:Nat) (hi:i<ts.length),ts[i].r.name=n/\e= .returned ts[i].ptr)\/((∀t∈ts,t.r.name≠n)/\e= .returned (.pointer none))
theorem ru(c:BM G Kj wz w bb a cap rd rn rc mb mx ts d dc f ws)(n:Ps)(P:ts.length<=1048576):
  Calls prog 113 #[.c bb,.string n] w λe w'=>Ke ts n e/\K_ w w':=by
 have v:=c.c3;have E:=c.c4;have Q:=c.row.lt;have l:=ek ts;have h:=Kz c;clear c;go_enter func113,ntmps113
 go_wp2_with fail
 have m:=Ac w d dc (iX ts) n A7 (uj h.o.asc) (ts.map Zx.ptr) h.o.packed (eD h.o.items);rw[l] at m;refine m.mono ?_;rintro e F ⟨⟨p,H,rfl,x,y⟩,q⟩;have⟨I,z,R⟩:=fu x y l;clear x y m l v E;have j:=h.o.kept q;have v:=j.c3;have S:=j.row.lt;cases H
 .go_wp2
  go_ret
  refine⟨.inr ⟨λT J e=>?_,rfl⟩,q⟩;obtain⟨A,B,rfl⟩:=Oc J;have K:=I.o;have L:¬(p<(iX ts).length/\nameAt (iX ts) p=n.toList):=λM=>by have:=z.o.2 M;cases this
  have s:nameAt (iX ts) A=n.toList:=by unfold nameAt;rw[iJ B,e]
  have t:A<(iX ts).length:=by rw[ek];exact B
  have N:=Place.only (uj h.o.asc) K t s;rw[N] at t s;exact L ⟨t,s⟩
 .obtain⟨i,k⟩:=z.o.1 rfl;rw[ek] at i;have C:ts[p].r.name=n:=by unfold nameAt at k;rw[iJ i] at k;exact toList_inj.1 k
  obtain⟨b,o,rfl,U,D⟩:=eD j.items p (by simpa using i);have V:F.cell? ⟨b,o+p,none⟩=some ts[p].ptr:=D p _ (by simp[i]);have W:(p:Int)<(ts.length:Int):=A7;have O:=Kz C;clear C D k j;go_wp2
  go_ret
  exact⟨.inl ⟨p,i,O.o,rfl⟩,q⟩
theorem yx(w:Pv)(n:Ps)(a:n.size<=1000):
  Calls prog 131 #[.string n] w λe w'=>e= .returned (.agg #[.bool true,.string (rY n)])/\K_ w w':=by
 go_enter func131,ntmps131
 have b:¬9223372036854775807<3+n.size:=A7;go_wp2
 exact X_ [.bool true,.string (rY n)] _ results131 rfl (Xz w #[.bool true,.string (rY n)] 80) underlying80 rfl Tryz.jf rfl ⟨rfl,ah _ _⟩
def Jh(Kj:List Qq)(l:List Qz)(n:Ps)(e:Ending):Prop:=
 ∃(f:Bool) (t:Ps) (ok:Bool),e= .returned (.tuple #[.agg #[.bool f,.string t],.bool ok])/\aP (Q_ Kj) (Qj l) n= (if ok=true then some ⟨f,t⟩ else none)/\(ok=false->∃r,Qj l n=some r/\f=r.fail/\t=r.text)
theorem uk(p:BM G Kj wz w bb a cap rd rn rc mb mx ts d dc f ws)(n:Ps)(S:ts.length<=1048576)(T:n.size<=1000)(y:(∃t∈ts,t.r.name=n)\/Q_ Kj n=none):
  Calls prog 80 #[.c bb,.string n] w λe w'=>Jh Kj (Qk ts) n e/\K_ w w':=by
 have z:K_ w (w.alloc (.cells #[.bool false,.string ⟨#[]⟩] 80)):=ah _ _;go_enter func80,ntmps80
 go_wp2_with fail
 refine (ru (p.kept z) n S).mono ?_;rintro e q ⟨⟨i,A,B,rfl⟩|⟨L,rfl⟩,s⟩
 .obtain⟨t,b⟩:=ai (ts[i]);have C:=p.fE ts[i] (Oa A);rw[<-b] at C B;have v:=C.rng;have M:J4 w t.tb 1 (.bool t.r.over):=v 1 _ rfl;have N:J4 w t.tb 2 (.bool t.r.fail):=v 2 _ rfl;have O:J4 w t.tb 3 (.string t.r.text):=v 3 _ rfl;have D:=C.row.lt;have E:Hid (∀w',K_ w w'->J4 w' t.tb 1 (.bool t.r.over)/\J4 w' t.tb 2 (.bool t.r.fail)/\J4 w' t.tb 3 (.string t.r.text)):=λw' K=>⟨(K.cell D).trans M,(K.cell D).trans N,(K.cell D).trans O⟩
  have F:=Kz ((aB.made w #[.bool false,.string ⟨#[]⟩] 80).kept s);have c:=(z.trans s);obtain⟨U,V,W⟩:=E.o _ c;have⟨X,Y⟩:=aH B b;have P:ts[i].ptr= .c t.tb:=by rw[<-b];rfl
  rw[P];clear b B M N O v P;go_upto_region 4 with fail
  refine wG 17 E.o (c.drew) (λj=>?_);have H:K_ w q.drew:=c.drew;have k:=Kz (F.o.kept (bD q));generalize Z:q.drew=wd at j H k⊢;clear Z U V W;refine ax 0 j ?_;refine ax 4 j ?_;refine ax 8 j ?_;refine ax 12 j ?_;obtain⟨⟨_,x0⟩,f0⟩:=k.o.row.at (i:=0) A8;obtain⟨⟨_,x1⟩,f1⟩:=k.o.row.at (i:=1) A8;have xz:=k.o.lt;refine aj 16 (λK l=>?_);go_simp
  refine l.out _ _ ?_ ?_
  .exact λ_=>E.o _ (bJ (g:=w.heap.size) (NQ _) [.bool t.r.fail,.string t.r.text] 0 H)
  clear l K;try simp only[upP]
  refine aj 17 (λK l=>?_);go_simp
  refine af l (λh=>Pg rfl h) ?_;clear l K;refine aG ?_;go_wp2_with fail
  have I:=NU wd w.heap.size 0 [.bool t.r.fail,.string t.r.text] (k.o.row.there (o:=0) (m:=2) (NQ _));refine bI [.bool t.r.fail,.string t.r.text] _ (.bool t.r.over) results80 rfl I underlying80 rfl Tryz.jf rfl rfl ?_;refine⟨⟨t.r.fail,t.r.text,t.r.over,rfl, ?_⟩,bJ (g:=w.heap.size) (NQ _) [.bool t.r.fail,.string t.r.text] 0 H⟩;have Q:=(p.act ts[i] (Oa A)).1;have J:=bE p.asc (OP (Oa A):ts[i].r∈Qk ts);rw[<-Y.o,X.o] at Q J;refine⟨by unfold aP;rw[Q,J],λ_=>⟨t.r,J,rfl,rfl⟩⟩
 .have F:=Kz ((aB.made w #[.bool false,.string ⟨#[]⟩] 80).kept s);have c:=(z.trans s);have a0:=Kz L;clear L;go_wp2_with fail
  refine (yx q n T).mono ?_;rintro e w2 ⟨rfl,R⟩;have x:=Kz (F.o.kept R);obtain⟨⟨_,x0⟩,f0⟩:=x.o.row.at (i:=0) A8;obtain⟨⟨_,x1⟩,f1⟩:=x.o.row.at (i:=1) A8;have xz:=x.o.lt;go_wp2_with fail
  have I:=NU w2 w.heap.size 0 [.bool true,.string (rY n)] (x.o.row.there (o:=0) (m:=2) (NQ _));refine bI [.bool true,.string (rY n)] _ (.bool true) results80 rfl I underlying80 rfl Tryz.jf rfl rfl ?_;refine⟨⟨true,rY n,true,rfl, ?_⟩,bJ (g:=w.heap.size) (NQ _) [.bool true,.string (rY n)] 0 (c.trans R)⟩;rcases y with⟨t,b,e⟩|y
  .exact Pg e (a0.o t b)
  .exact⟨by unfold aP;rw[y];rfl,λh=>by cases h⟩
theorem oG(b:BM G Kj wz w bb a cap rd rn rc mb mx ts d dc f ws)(n:Ps)(c:ts.length<=1048576)(h:n.size<=1000)(i:(∃t∈ts,t.r.name=n)\/Q_ Kj n=none):
  Calls prog 80 #[.c bb,.string n] w λe w'=>FX Kj (Qk ts) n e/\K_ w w':=by
 refine (uk b n c h i).mono ?_;rintro e w' ⟨⟨f,t,j,k,l,_⟩,m⟩;exact⟨⟨f,t,j,k,l⟩,m⟩
end
section
variable {G : bV} {Kj : List Qq} {wz w w' : Pv} {bb : Nat} {a : Pt} {cap : Nat} {rd : Pt} {rn rc : Nat} {mb mx : Nat} {ts : List Zx} {d : Pt} {dc : Nat} {f : Ps -> Pw} {ws : Ps -> List Nat}
theorem BM.store(j:BM G Kj wz w bb a cap rd rn rc mb mx ts d dc f ws){i:Nat}{t t':Zx}(hi:ts[i]? =some t){o:Nat}{v:Pw}(A:o<12)(e:t'.cells=t.cells.set o v)(k:t'.tb=t.tb)(B:t'.r.name=t.r.name)(C:t'.cost=t.cost)(D:t'.steps=t.steps)(E:t'.sa=t.sa)(q:t'.tv=t.tv)(s:t'.qv=t.qv)(y:t'.qs=t.qs)(F:t'.r.texts=t.r.texts):
  BM G Kj wz (w.setCell ⟨t.tb,o,none⟩ v) bb a cap rd rn rc mb mx (ts.set i t') d dc f ws:=by
 obtain⟨l,rfl⟩:=NW.1 hi;have b:=j.fE _ (Oa l);have m:But (λc=>c=ts[i].tb) w (w.setCell ⟨ts[i].tb,o,none⟩ v):=But.set (S:=λc=>c=ts[i].tb) (But.au (K_.refl w)) (p:=⟨ts[i].tb,o,none⟩) rfl v;have ne:∀x∈ts[i].own,x≠ts[i].tb:=λx n=>aK (b.bH n).1 b.row.type A8
 have z:t'.own=ts[i].own:=by unfold Zx.own;rw[q,s]
 refine j.turn l m (λc h=>.inl h) ⟨by rw[k];exact b.row.set v,by rw[k,e];exact nG b.rng b.row.row A v, ?_, ?_,by rw[k];exact b.low⟩ k B C D E (λx n=>.inl (by rw[<-z];exact n)) (by rw[z];exact j.zW _ (Oa l)) (by rw[y];exact j.qb _ (Oa l))
 .rw[q,F];exact m.owns b.txt (λc h=>ne c (N_.2 (.inl (Oz.2 h))))
 .rw[s,y];exact m.owns b.ask (λc h=>ne c (N_.2 (.inr (Oz.2 h))))
theorem BM.at(h:BM G Kj wz w bb a cap rd rn rc mb mx ts d dc f ws){i:Nat}{t:Zx}(hi:ts[i]? =some t):kZ wz.heap.size w t:=h.fE t (Oe hi)
theorem Tryz.Mx(w:Pv):(zeroValue 118).run prog w= .ok J3 w:=C9
theorem Tryz.keyed :Maps.Keyed prog 9:=Maps.string_keyed underlying9
theorem BM.look(h:BM G Kj wz w bb a cap rd rn rc mb mx ts d dc f ws){s:Ps}(c:s.size<=maxLen):(Instr.lookup 117 (.map (some mb)) (.string s) false).run prog w= .ok (f s) w:=by
 obtain⟨N,D,_,i,j⟩:=h.map;obtain⟨v,m,k,b⟩:=i.lookup Tryz.keyed underlying117 (Tryz.Mx w) (zd:= .held J3) (zp:=[]) rfl (WideMaps.keyOf_string_mk underlying9 c);have e:=j s c;unfold asIs at b;simp only[OE,Prod.mk.injEq] at b;have l:(DataW.held v:DataW Pw)= .held (f s):=b.1.trans e;cases l;exact k
theorem gm{s b:Ps}(h:s≠b):a_ s≠a_ b:=λe=>h (by
 unfold a_ at e;simp only[Lit.string.injEq] at e;exact Br e)
theorem BM.del(h:BM G Kj wz w bb a cap rd rn rc mb mx ts d dc f ws){s:Ps}(y:s.size<=maxLen)(p:TypeId):∃w',(Builtin.delete_ #[117,9] p #[.map (some mb),.string s]).run prog w= .ok (.tuple #[]) w'/\But (λb=>b=mb) w w'/\BM G Kj wz w' bb a cap rd rn rc mb mx ts d dc (λn=>if n=s then J3 else f n) (λn=>if n=s then [] else ws n):=by
 obtain⟨N,J,z,q,A⟩:=h.map;obtain⟨w',B,C,D⟩:=q.drop Tryz.keyed underlying117 (WideMaps.keyOf_string_mk underlying9 y) p;have k:But (λb=>b=mb) w w':=But.aI D.grown (λb e=>(OQ e).symm);refine⟨w',B,k, ?_⟩;have ne:∀{b:Nat} {t:TypeId},bf w b t->¬b=mb:=λE e=>gV q E e
 have l:=h.row.lt;have i:=ne h.row.type;have F:Fen G w' bb mb ts (λn=>if n=s then J3 else f n):=by
  have j:=h.oth.but k (λb e=>by rw[e];exact h.oth.nm);refine⟨j.size,j.lt,j.same,j.nb,j.nm,j.nt,λn x c=>?_,j.has⟩;by_cases e:n=s
  .simp only[Pe e] at c;cases c
  .simp only[Pf e] at c;exact h.oth.nf n x c
 refine⟨k.kept h.kw (λb e=>by rw[e];exact h.Ci),k.row h.row i,(k.cell l i).trans h.c0,(k.cell l i).trans h.c1,(k.cell l i).trans h.c2,(k.cell l i).trans h.c3,(k.cell l i).trans h.c4,(k.cell l i).trans h.c5,h.low,k.owns h.items (λb e=>ne (Yz h.items e)),λt m=>(h.fE t m).but k (ne (h.fE t m).row.type) (λx c=>ne ((h.fE t m).bH c).1),h.act,h.asc,h.tbs,h.sep,h.zW,⟨N,_,z,C,λn H=>?_⟩,h.Ci,λn=>?_,λn r I x c=>?_,λn x c=>?_,h.qb,F,h.gi⟩
 .by_cases e:n=s
  .rw[Pe e,e];exact Maps.atKey_del_same _
  .rw[Pf e,<-A n H];exact Maps.atKey_del_other (gm e) _
 .by_cases e:n=s
  .simp only[Pe e];exact OO _ _ _ _
  .simp only[Pf e];exact k.owns (h.jg n) (λb e=>ne (Yz (h.jg n) e))
 .by_cases e:n=s
  .rw[Pe e] at c;cases c
  .rw[Pf e] at c;by_cases v:r=s
   .rw[Pe v];intro h;cases h
   .rw[Pf v];exact h.zU n r I x c
 .by_cases e:n=s
  .rw[Pe e] at c;cases c
  .rw[Pf e] at c;exact h.Ck n x c
end
def iN(ts:List Zx)(l:List Nat):List Zx:=ts.map λt=>if t.tb∈l then {t with op:=t.op-1} else t
theorem DR{ts:List Zx}{l:List Nat}{i:Nat}(h:i<(iN ts l).length)(hi:i<ts.length):(iN ts l)[i]=if ts[i].tb∈l then {ts[i] with op:=ts[i].op-1} else ts[i]:=by simp[iN]
theorem Dx(ts:List Zx):iN ts []=ts:=by simp[iN]
theorem Az{ts:List Zx}{l:List Nat}{b j:Nat}{t:Zx}(n:(ts.map (·.tb)).Nodup)(p:b∉l)(q:ts[j]? =some t)(d:t.tb=b):iN ts (l++ [b])= (iN ts l).set j {t with op:=t.op-1}/\(iN ts l)[j]? =some t:=by
 obtain⟨f,rfl⟩:=NW.1 q;have r:(iN ts l)[j]? =some ts[j]:=by
  unfold iN;rw[List.getElem?_map,NV f];simp only[Option.map_some,OE];rw[Pf (by rw[d];exact p)]
 refine⟨?_,r⟩;apply List.ext_getElem
 .simp[iN]
 .intro i k v;have a:i<ts.length:=by simpa[iN] using k
  rw[Pq,DR k a];by_cases e:j=i
  .subst e;rw[Pe rfl,Pe (by rw[d];simp)]
  .rw[Pf e,DR (by simpa[iN] using a) a];have s:ts[i].tb≠b:=by
    rw[<-d];have m:=Ob.1 n;rcases Nat.lt_or_gt_of_ne e with h|h
    .have:=m j i (by simpa using f) (by simpa using a) h;simp at this;exact λe=>this e.symm
    .have:=m i j (by simpa using a) (by simpa using f) h;simpa using this
   by_cases c:ts[i].tb∈l
   .rw[Pe c,Pe (N_.2 (.inl c))]
   .rw[Pf c,Pf (by rw[N_,NZ];rintro (h|h);exact c h;exact s h)]
def Looks(P:Program)(gf:Nat)(rv:Pw)(encs:Nat->Array Pw)(V N:Nat->Pv->Prop)(n:Nat)(ok:Pv->Prop):Prop:=
 ∀(l:Nat) (J:Nat->Pv->Prop) (Jx:Pv->Prop) (W:Pv),ok W->
  (∀i W1,i<n->J i W1->(V i W1/\YieldAt Fence.wide 7 P l (encs i) W1 λe W'=>(e= .returned (.bool true)/\J (i+1) W')\/(e= .returned (.bool false)/\Jx W'))\/(N i W1/\J (i+1) W1))->
  J 0 W->CallsIn Fence.wide 8 P gf #[rv,.func (.yield l) #[] #[]] W λe W'=>(∃v,e= .returned v)/\(J n W'\/Jx W')
def roundEnd(B:Nat)(I:Pv->Prop)(Ix:Code->Pv->Prop)(W:Pv):Exit->Act->Pv->Prop
 | .normal,_,W'=>KeepsFrom B W W'/\I W'
 | .ret,_,W'=>KeepsFrom B W W'/\Ix .ret W'
 | .exit id,_,W'=>KeepsFrom B W W'/\Ix (.exit id) W'
 | .goto t,_,W'=>KeepsFrom B W W'/\Ix (.goto t) W'
 | .panic _,_,_=>False
 | .outgrown,_,_=>False
def Calm(B:Nat)(I:Pv->Prop):Prop:=(∀W o,B<=W.heap.size->I W->I (W.alloc o))/\∀(W:Pv) (l:Nat) (o o':Obj),B<=l->W.heap[l]? =some o->o.isCells=false->I W->I (W.putObj l o')
theorem xg{P:Program}{g:Operand}{ps:Array Tmp}{assign body:Code}{U:Exit->Act->Pv->Prop}{a:Act}{w:Pv}{E:Nat}{L:Pw}{M:Nat->Array Pw}{V N:Nat->Pv->Prop}{n:Nat}{O:Pv->Prop}
  (a7:Looks P E L M V N n O) (hg:a.eval g= .func (.func E) #[L] #[]) (eg:∀args w,(callFunc E args).run P w= .ok (.enter E args) w) (a1:Calm w.heap.size O) (a8:O w) (a9:∀i,(M i).size=ps.size)
  (I:Nat->Pv->Prop) (Q:Code->Pv->Prop) (H:∀i,Calm w.heap.size (I i)) (R:∀c,Calm w.heap.size (Q c)) (h0:I 0 w) (a₁:Nat->Act)
  (b0:∀(l i:Nat) (W:Pv) (K:Act->Pv->Prop),K (a₁ i) W->assign.wpIn (Fence.wide.inRound l) 7 P (Exit.then K (λ_ _ _=>False)) {tmps:=(ps.zip (M i)).foldl (λt (p,v)=>t.setIfInBounds p v) a.tmps,defers:=[]} W)
  (hV:∀i,Calm w.heap.size (V i))
  (b1:∀(i:Nat) (W:Pv),i<n->I i W->(V i W/\∀l W',V i W'->I i W'->w.heap.size<=W'.heap.size->body.wpIn (Fence.wide.inRound l) 7 P (roundEnd w.heap.size (I (i+1)) Q W') (a₁ i) W')\/(N i W/\I (i+1) W))
  (b2:∀(D:Nat) (W:Pv),w.heap.size<=D->I n W->W.heap[D]? =some (.deferred (some []))->U .normal {a with defers:={target:= .collected D,args:= #[]} :: a.defers} W)
  (b3:∀(D:Nat) (c:Code) (W:Pv),w.heap.size<=D->Q c W->W.heap[D]? =some (.deferred (some []))->c.wpIn Fence.wide 9 P U {a with defers:={target:= .collected D,args:= #[]} :: a.defers} W):
  (Code.rangeFunc g ps assign body).wpIn Fence.wide 9 P U a w:=by
 refine wpIn_rangeFunc λfn b4=>?_
 obtain⟨D,hD⟩:=ai w.heap.size;obtain⟨b,f⟩:∃b:LoopState->Option Code->Loop,b=λs q=>{state:=s,pending:=q,fn,tmps:=a.tmps,params:=ps,assign,body,defers:=D}:=⟨_,rfl⟩
 have es:∀s q x X,({b s q with state:=x,pending:=X}:Loop)=b x X:=λs q x X=>by rw[f]
 have b5:∀s q x,({b s q with state:=x}:Loop)=b x q:=λs q x=>by rw[f]
 obtain⟨h,Y⟩:∃h,(w.alloc (.deferred (some []))).alloc (.loop (b .ready none))=h:=⟨_,rfl⟩;have z1:w.heap.size<=(w.alloc (.deferred (some []))).heap.size:=by rw[OC];omega
 have S:h.heap[D+1]? =some (.loop (b .ready none))/\h.heap[D]? =some (.deferred (some []))/\I 0 h/\O h:=by
  rw[<-Y,hD];refine⟨?_, ?_,(H 0).1 _ _ z1 ((H 0).1 _ _ (NQ _) h0),a1.1 _ _ z1 (a1.1 _ _ (NQ _) a8)⟩
  .have:=World.alloc_heap_new (w.alloc (.deferred (some []))) (.loop (b .ready none))
   rwa [OC] at this
  .exact (Below.heap_alloc _ _ _ A9).trans (World.alloc_heap_new w _)
 refine⟨D+1,[{target:= .collected D,args:= #[]}],h,{target:= .fn (.func E) #[],args:= #[L,.func (.yield (D+1)) #[] #[]]},h,E,#[L,.func (.yield (D+1)) #[] #[]],h, ?_, ?_,λ_ _=>trivial, ?_,λ_=>A7, ?_⟩
 .rw[<-Y,f,hD];exact run_enterLoop_outer _ _ _ _ _
 .simp only[resolve,hg];simp[go_sem]
 .simp[invoke,go_sem,eg]
 refine (a7 (D+1) (λi W=>I i W/\w.heap.size<=W.heap.size/\W.heap[D+1]? =some (.loop (b .ready none))/\W.heap[D]? =some (.deferred (some []))) (λW=>∃c,Q c W/\W.heap[D+1]? =some (.loop (b .done (some c)))/\W.heap[D]? =some (.deferred (some []))) h S.2.2.2 ?_ ⟨S.2.2.1,by rw[<-Y];simp;omega,S.1,S.2.1⟩).mono ?_
 .rintro i W J ⟨a2,Z,e,F⟩;have b6:D+1<W.heap.size:=(OB.1 e).1;rcases b1 i W J a2 with⟨a4,b7⟩|⟨b8,b9⟩
  .refine .inl ⟨a4, ?_⟩;have hy:=run_yield (P:=P) (args:=M i) e (by rw[f];exact a9 i);rw[f] at hy;refine⟨fn,_,assign,body,hy, ?_⟩;refine roundIn_of_wpIn b4 (b0 _ i W _ ⟨_,run_beginRound e (by rw[f]), ?_⟩);obtain⟨m,G⟩:∃m,W.putObj (D+1) (.loop {b .ready none with state:= .busy})=m:=⟨_,rfl⟩;rw[G];have c0:m.heap[D+1]? =some (.loop (b .busy none)):=by rw[<-G,World.putObj_heap_same b6,b5]
   have c1:m.heap[D]? =some (.deferred (some [])):=by rw[<-G,World.putObj_heap_other A7];exact F
   have a5:w.heap.size<=m.heap.size:=by rw[<-G,World.putObj_size];exact Z
   have c2:I i m:=by rw[<-G];exact (H i).2 _ _ _ _ A7 e rfl a2
   have c3:V i m:=by rw[<-G];exact (hV i).2 _ _ _ _ A7 e rfl a4
   refine wpIn_mono (b7 _ m c3 c2 a5) ?_;have fin:∀(r:Option Code) (j:Pv),KeepsFrom w.heap.size m j->
     ∃d,(Instr.endRound (D+1) r).run P j= .ok (.bool r.isNone) d/\d=j.putObj (D+1) (.loop (b (if r.isNone then .ready else .done) r))/\j.heap[D+1]? =some (.loop (b .busy none))/\d.heap[D+1]? =some (.loop (b (if r.isNone then .ready else .done) r))/\d.heap[D]? =some (.deferred (some []))/\w.heap.size<=d.heap.size:=λr j hk=>by
    have a0:=hk.same _ _ A7 c0 rfl;have c4:=hk.same _ _ A7 c1 rfl;refine⟨_,run_endRound (P:=P) r a0,by rw[es],a0, ?_, ?_, ?_⟩
    .rw[es];exact World.putObj_heap_same (OB.1 a0).1
    .rw[World.putObj_heap_other A7];exact c4
    .rw[World.putObj_size];exact NT a5 hk.size
   intro a6 a3 j k;cases a6 with
   | normal=>
    obtain⟨d,y,z,A,B,C,T⟩:=fin none j k.1;exact⟨_,d,y,.inl ⟨rfl,by rw[z];exact (H _).2 _ _ _ _ A7 A rfl k.2,T,B,C⟩⟩
   | ret=>
    obtain⟨d,y,z,A,B,C,T⟩:=fin (some .ret) j k.1;exact⟨_,d,y,.inr ⟨rfl,.ret,by rw[z];exact (R _).2 _ _ _ _ A7 A rfl k.2,B,C⟩⟩
   | exit id=>
    obtain⟨d,y,z,A,B,C,T⟩:=fin (some (.exit id)) j k.1;exact⟨_,d,y,.inr ⟨rfl,.exit id,by rw[z];exact (R _).2 _ _ _ _ A7 A rfl k.2,B,C⟩⟩
   | goto t=>
    obtain⟨d,y,z,A,B,C,T⟩:=fin (some (.goto t)) j k.1;exact⟨_,d,y,.inr ⟨rfl,.goto t,by rw[z];exact (R _).2 _ _ _ _ A7 A rfl k.2,B,C⟩⟩
   | panic ch=>exact k.elim
   | outgrown=>exact k.elim
  .exact .inr ⟨b8,b9,Z,e,F⟩
 .rintro a6 W2 ⟨⟨v,rfl⟩,(⟨J,Z,e,F⟩|⟨c,J,e,F⟩)⟩
  .refine⟨none,_,by have:=run_endLoop (P:=P) e (by rw[f];simp);rw[f] at this;exact this, ?_⟩;exact b2 D _ A7 ((H n).2 _ _ _ _ A7 e rfl J) (by rw[World.putObj_heap_other A7];exact F)
  .refine⟨some c,_,by have:=run_endLoop (P:=P) e (by rw[f];simp);rw[f] at this;exact this, ?_⟩;exact b3 D c _ A7 ((R c).2 _ _ _ _ A7 e rfl J) (by rw[World.putObj_heap_other A7];exact F)
open Go.RowKit Go.Shelf
attribute [local go_sem] Oper.semAt_some
def DZ(d:Pt)(tb:Nat->Nat)(i:Nat)(W:Pv):Prop:=∃g,d=some ⟨g,0,none⟩/\W.cell? ⟨g,i,none⟩=some (.c (tb i))/\W.cell? ⟨tb i,1,none⟩=some (.bool false)/\W.cell? ⟨tb i,9,none⟩=some (.a 0)
def FV(d:Pt)(tb:Nat->Nat)(i:Nat)(W:Pv):Prop:=∃g,d=some ⟨g,0,none⟩/\W.cell? ⟨g,i,none⟩=some (.c (tb i))/\(W.cell? ⟨tb i,1,none⟩=some (.bool true)\/(W.cell? ⟨tb i,1,none⟩=some (.bool false)/\∃op:Nat,op≠0/\W.cell? ⟨tb i,9,none⟩=some (.a (op:Int))))
theorem vE(bb:Nat)(d:Pt)(n dc:Nat)(tb:Nat->Nat)(w:n<=1048576):
  Looks prog 33 (.c bb) (λi=>#[.c (tb i)]) (DZ d tb) (FV d tb) n (λW=>W.cell? ⟨bb,3,none⟩=some (.slice d n dc)):=by
 intro y J z W A a f;refine callsIn_of_wp func33 rfl trivial ?_ rfl;simp only[ntmps33,List.size_toArray,OH,List.length_nil,Nat.reduceAdd,Nat.reduceSub,Array.replicate_succ,Array.replicate_zero,List.push_toArray,List.append_toArray,List.nil_append,List.cons_append];have j:=Kz a;clear a
 gi_wp2
 gi_loopw [12] (λx wr=>∃i:Nat,i<=n/\x= .a i/\J i wr) (λx _=>n-(intOf x).toNat)
 case atStart=>exact⟨0,NS _,rfl,f⟩
 case round=>
  obtain⟨i,B,rfl,b⟩:=hrel;by_cases k:i<n
  .rcases j.o i wr k b with⟨⟨g,rfl,l,c,m⟩,fn,C,D,E,F,p⟩|⟨⟨g,rfl,l,q⟩,e⟩
   .gi_wp2
    refine p.mono ?_;rintro G H (⟨rfl,r⟩|⟨rfl,s⟩)
    .gi_wp2
     go_roundw
     case rel=>exact⟨i+1,A7,C8,r⟩
     case measure=>simp[intOf];omega
    .gi_wp2
     refine bodyPost_ret (results_none rfl _ _ _) rfl ?_;exact⟨⟨_,rfl⟩,.inr s⟩
   .rcases q with c|⟨c,t,v,m⟩
    .gi_wp2
     refine⟨λ_ h=>(by cases h), ?_⟩
     gi_wp2
     go_roundw
     case rel=>exact⟨i+1,A7,C8,e⟩
     case measure=>simp[intOf];omega
    .have I:((t:Int) == 0)=false:=by simpa using v
     gi_wp2
     refine⟨λ_ h=>(by cases h), ?_⟩
     gi_wp2
     go_roundw
     case rel=>exact⟨i+1,A7,C8,e⟩
     case measure=>simp[intOf];omega
  .gi_wp2
   go_end0
   have:i=n:=A7;subst this;exact⟨⟨_,rfl⟩,.inl b⟩
theorem iE{w:Pv}{b:Nat}{t:TypeId}(h:bf w b t){o:Obj}(a:w.heap[b]? =some o):o.isCells=true:=by
 obtain⟨e,f,d⟩:=h;rw[d] at a;cases a
 rfl
theorem bf.set{w:Pv}{b:Nat}{t:TypeId}(h:bf w b t)(p:Addr)(v:Pw):bf (w.setCell p v) b t:=by
 obtain⟨d,a,c⟩:=h;by_cases e:b=p.block
 .subst e;obtain⟨f,i⟩:=OB.1 c;apply Exists.intro;apply Exists.intro (w:=a);show (w.heap.modify p.block _)[p.block]? =_;rw[Array.getElem?_eq_getElem (by rw[Array.size_modify];exact f),Array.getElem_modify_self,i]
 .exact⟨d,a,(Below.heap_setCell w p v b e).trans c⟩
structure InB (B:Nat) (Kf Kc:Nat->Prop) (ps:List (Nat×Ps)) (W0:Pv) (Kj:List Qq) (wz W:Pv) (bb:Nat) (a:Pt) (cap:Nat) (rd:Pt) (rn rc:Nat) (mb mx:Nat) (ts:List Zx) (d:Pt) (dc:Nat) (f:Ps->Pw) (ws:Ps->List Nat):Prop where
 bm:BM ⟨W,λk=>Kf k\/Kc k,ps,λ_=>False⟩ Kj wz W bb a cap rd rn rc mb mx ts d dc f ws
 same:∀k,Kf k->W.heap[k]? =W0.heap[k]?
 lt:∀k,Kf k\/Kc k->k<B
 mlt:mb<B
 size:B<=W.heap.size
 zlt:wz.heap.size<=B
 Ld:∀k,Kc k->wz.heap.size<=k/\∃t,bf W k t/\t≠70
section
variable {B : Nat} {Kf Kc : Nat -> Prop} {ps : List (Nat × Ps)} {W0 : Pv} {Kj : List Qq} {wz W W' : Pv} {bb : Nat} {a : Pt} {cap : Nat} {rd : Pt} {rn rc : Nat} {mb mx : Nat} {ts : List Zx} {d : Pt} {dc : Nat} {f : Ps -> Pw} {ws : Ps -> List Nat}
theorem BM.as{G b:bV}(h:BM G Kj wz W bb a cap rd rn rc mb mx ts d dc f ws)(c:Fen b W bb mb ts f)(e:∀x,(Value.slice d ts.length dc).ownBlock=some x->¬(b.I x/\b.K x)):BM b Kj wz W bb a cap rd rn rc mb mx ts d dc f ws:=
 ⟨h.kw,h.row,h.c0,h.c1,h.c2,h.c3,h.c4,h.c5,h.low,h.items,h.fE,h.act,h.asc,h.tbs,h.sep,h.zW,h.map,h.Ci,h.jg,h.zU,h.Ck,h.qb,c,e⟩
theorem BM.no{G:bV}(h:BM G Kj wz W bb a cap rd rn rc mb mx ts d dc f ws):BM (bV.no wz) Kj wz W bb a cap rd rn rc mb mx ts d dc f ws:=h.as (Fen.no h.kw.size) (λ_ _ h=>h.1)
theorem BM.block{G:bV}(h:BM G Kj wz W bb a cap rd rn rc mb mx ts d dc f ws){S:Nat->Prop}(k:¬S mb)(c:∀b,S b->∀t,¬bf W b t):¬S bb/\¬S mb/\(∀b,(Value.slice d ts.length dc).ownBlock=some b->¬S b)/\(∀s b,(f s).ownBlock=some b->¬S b)/\∀t∈ts,¬S t.tb/\∀x∈t.own,¬S x:=
 ⟨λe=>c _ e _ h.row.type,k,λ_b i e=>c _ e _ (Yz h.items i),λs _b i e=>c _ e _ (Yz (h.jg s) i),λt j=>⟨λe=>c _ e _ (h.fE t j).row.type,λ_x l e=>c _ e _ ((h.fE t j).bH l).1⟩⟩
theorem InB.but{S:Nat->Prop}(h:InB B Kf Kc ps W0 Kj wz W bb a cap rd rn rc mb mx ts d dc f ws)(k:But S W W')(l:∀b,S b->wz.heap.size<=b)(c:¬S bb/\¬S mb/\(∀b,(Value.slice d ts.length dc).ownBlock=some b->¬S b)/\(∀s b,(f s).ownBlock=some b->¬S b)/\∀t∈ts,¬S t.tb/\∀x∈t.own,¬S x)(m:∀b,S b->¬Kf b)(n:∀b,S b->Kc b->∀t,bf W b t->bf W' b t):InB B Kf Kc ps W0 Kj wz W' bb a cap rd rn rc mb mx ts d dc f ws:=by
 have p:=h.bm.no.but k l c.1 c.2.1 c.2.2.1 c.2.2.2.1 c.2.2.2.2 (λ_ _=>id);have i:=h.bm.oth;refine⟨p.as ⟨NQ _,λb c=>NR (i.lt b c) k.size,λ_ _=>rfl,i.nb,i.nm,i.nt,i.nf,i.has⟩ (λ_ _ h=>h.1),λb c=>?_,h.lt,h.mlt,NT h.size k.size,h.zlt,λb c=>?_⟩
 .exact (k.block b (i.lt b (.inl c)) (λe=>m b e c)).trans (h.same b c)
 .obtain⟨q,t,j,r⟩:=h.Ld b c;refine⟨q,t, ?_,r⟩;by_cases e:S b
  .exact n b e c t j
  .obtain⟨v,w,y⟩:=j;exact⟨v,w,by rw[k.block b (i.lt b (.inr c)) e];exact y⟩
theorem InB.kept(h:InB B Kf Kc ps W0 Kj wz W bb a cap rd rn rc mb mx ts d dc f ws)(k:K_ W W'):InB B Kf Kc ps W0 Kj wz W' bb a cap rd rn rc mb mx ts d dc f ws:=
 h.but (S:=λ_=>False) (But.au k) (λ_ e=>e.elim) ⟨id,id,λ_ _=>id,λ_ _ _=>id,λ_ _=>⟨id,λ_ _=>id⟩⟩ (λ_ e=>e.elim) (λ_ e=>e.elim)
theorem mQ(k:K_ W W')(B:Nat):KeepsFrom B W W':=⟨k.size,λb _o _ a _=>(k.block b (aO a)).trans a⟩
theorem InB.calm(h:InB B Kf Kc ps W0 Kj wz W bb a cap rd rn rc mb mx ts d dc f ws){l:Nat}{o:Obj}(i:Obj)(j:B<=l)(k:W.heap[l]? =some o)(m:o.isCells=false):InB B Kf Kc ps W0 Kj wz (W.putObj l i) bb a cap rd rn rc mb mx ts d dc f ws:=by
 have n:But (λb=>b=l) W (W.putObj l i):=⟨rfl,rfl,rfl,F9,λb _ e=>World.putObj_heap_other e⟩;refine h.but n (λb e=>by rw[e];exact NT h.zlt j) (h.bm.block (S:=λb=>b=l) (λ(e:mb=l)=>by have:=h.mlt;omega) (λb e t p=>?_)) (λb e c=>?_) (λb e c=>?_)
 .have:=iE p (by rw[e];exact k);rw[m] at this;cases this
 .have:=h.lt b (.inl c);omega
 .have:=h.lt b (.inr c);omega
theorem InB.store(i:InB B Kf Kc ps W0 Kj wz W bb a cap rd rn rc mb mx ts d dc f ws){p:Addr}(c:Kc p.block)(m:¬Kf p.block)(v:Pw):InB B Kf Kc ps W0 Kj wz (W.setCell p v) bb a cap rd rn rc mb mx ts d dc f ws:=by
 have n:But (λb=>b=p.block) W (W.setCell p v):=But.set (S:=λb=>b=p.block) (But.au (K_.refl W)) rfl _;have h:=i.bm.oth;obtain⟨q,A,r,s⟩:=i.Ld _ c;refine i.but n (λb e=>by rw[e];exact q) ⟨λe=>h.nb (by rw[e];exact .inr c),λe=>h.nm (by rw[e];exact .inr c),λb j e=>?_,λt b j e=>h.nf t b j (by rw[e];exact .inr c),λu k=>⟨λe=>(h.nt u k).1 (by rw[e];exact .inr c),λx w e=>(h.nt u k).2 x w (by rw[e];exact .inr c)⟩⟩ (λb e=>by rw[e];exact m) (λb e _ u k=>?_)
 .rw[e] at j;exact aK r (Yz i.bm.items j) s rfl
 .obtain⟨y,z,l⟩:=k;rw[e] at l⊢;exact bf.set ⟨y,z,l⟩ p v
def inG(B:Nat)(Kf Kc:Nat->Prop)(ps:List (Nat×Ps))(W:Pv):bV:=⟨W,λk=>(Kf k\/Kc k)\/(B<=k/\∃o,W.heap[k]? =some o/\o.isCells=false),ps,λ_=>False⟩
theorem InB.told(h:InB B Kf Kc ps W0 Kj wz W bb a cap rd rn rc mb mx ts d dc f ws):BM (inG B Kf Kc ps W) Kj wz W bb a cap rd rn rc mb mx ts d dc f ws:=by
 have c:=h.bm.oth;have j:=h.bm.block (S:=λk=>B<=k/\∃o,W.heap[k]? =some o/\o.isCells=false) (λe=>by have:=h.mlt;omega) (λb e t i=>by
  obtain⟨_,o,m,p⟩:=e;have:=iE i m;rw[p] at this;cases this)
 refine h.bm.as ⟨NQ _,λk n=>?_,λ_ _=>rfl, ?_, ?_,λt i=>⟨?_,λx l=>?_⟩,λs x l=>?_,c.has⟩ (λ_ _ h=>h.1)
 .rcases n with n|⟨_,o,m,_⟩
  .exact c.lt k n
  .exact aO m
 .rintro (e|e)
  .exact c.nb e
  .exact j.1 e
 .rintro (e|e)
  .exact c.nm e
  .exact j.2.1 e
 .rintro (e|e)
  .exact (c.nt t i).1 e
  .exact (j.2.2.2.2 t i).1 e
 .rintro (e|e)
  .exact (c.nt t i).2 x l e
  .exact (j.2.2.2.2 t i).2 x l e
 .rintro (e|e)
  .exact c.nf s x l e
  .exact j.2.2.2.1 s x l e
theorem InB.did(h:InB B Kf Kc ps W0 Kj wz W bb a cap rd rn rc mb mx ts d dc f ws){m:Nat}{n:List Zx}{p:Pt}{q:Nat}{r:Ps->Pw}{s:Ps->List Nat}(v:BM (inG B Kf Kc ps W) Kj wz W' bb a cap rd rn rc mb m n p q r s):InB B Kf Kc ps W0 Kj wz W' bb a cap rd rn rc mb m n p q r s/\KeepsFrom B W W'/\∀k,Kc k->W'.heap[k]? =W.heap[k]? :=by
 have c:=v.oth;have i:∀k,Kf k\/Kc k->W'.heap[k]? =W.heap[k]? :=λk b=>c.same k (.inl b)
 refine⟨⟨v.as ⟨NQ _,λk b=>NR (c.lt k (.inl b)) c.size,λ_ _=>rfl,λe=>c.nb (.inl e),λe=>c.nm (.inl e),λt w=>⟨λe=>(c.nt t w).1 (.inl e),λx j e=>(c.nt t w).2 x j (.inl e)⟩,λy x j e=>c.nf y x j (.inl e),c.has⟩ (λ_ _ h=>h.1),λk b=>(i k (.inl b)).trans (h.same k b),h.lt,h.mlt,NT h.size c.size,h.zlt,λk b=>?_⟩,⟨c.size,λk o z b l=>(c.same k (.inr ⟨z,o,b,l⟩)).trans b⟩,λk b=>i k (.inr b)⟩;obtain⟨A,t,⟨C,D,l⟩,E⟩:=h.Ld k b;exact⟨A,t,⟨C,D,by rw[i k (.inr b)];exact l⟩,E⟩
theorem InB.start(h:BM (bV.no wz) Kj wz W bb a cap rd rn rc mb mx ts d dc f ws)(b:∀k,Kf k\/Kc k->k<W.heap.size/\k≠bb/\k≠mb/\(∀t∈ts,k≠t.tb/\k∉t.own)/\∀s,(f s).ownBlock≠some k)(l:∀k,Kc k->wz.heap.size<=k/\∃t,bf W k t/\t≠70)(m:∀p∈ps,∃t∈ts,t.tb=p.1/\t.r.name=p.2):InB W.heap.size Kf Kc ps W Kj wz W bb a cap rd rn rc mb mx ts d dc f ws:=by
 obtain⟨N,D,_,n,_⟩:=h.map;obtain⟨v,w,q,_⟩:=n;exact⟨h.as ⟨NQ _,λk c=>(b k c).1,λ_ _=>rfl,λe=>(b _ e).2.1 rfl,λe=>(b _ e).2.2.1 rfl,λt j=>⟨λe=>((b _ e).2.2.2.1 t j).1 rfl,λx i e=>((b _ e).2.2.2.1 t j).2 i⟩,λs x i e=>(b _ e).2.2.2.2 s i,m⟩ (λ_ _ h=>h.1),λ_ _=>rfl,λk c=>(b k c).1,aO q,NQ _,h.kw.size,l⟩
end
def xy(w:Pv)(bb mb:Nat)(ts:List Zx)(f:Ps->Pw)(k:Nat):Prop:=k<w.heap.size/\k≠bb/\k≠mb/\(∀t∈ts,k≠t.tb/\k∉t.own)/\∀s,(f s).ownBlock≠some k
theorem Fen.apart{G:bV}{w:Pv}{bb mb:Nat}{ts:List Zx}{f:Ps->Pw}(h:Fen G w bb mb ts f){k:Nat}(a:G.K k):xy w bb mb ts f k:=
 ⟨NR (h.lt k a) h.size,λe=>h.nb (by rw[<-e];exact a),λe=>h.nm (by rw[<-e];exact a),λt b=>⟨λe=>(h.nt t b).1 (by rw[<-e];exact a),λc=>(h.nt t b).2 k c a⟩,λs d=>h.nf s k d a⟩
theorem EY{w w1:Pv}{v:Pw}{t:TypeId}(k:K_ (w.alloc (.cells #[v] t)) w1):w1.cell? ⟨w.heap.size,0,none⟩=some v/\w1.frozen? ⟨w.heap.size,0,none⟩=false/\bf w1 w.heap.size t:=by
 have a:w.heap.size<(w.alloc (.cells #[v] t)).heap.size:=A9;exact⟨(k.cell a).trans A9,(k.rules.2 _ _ a).trans A9,#[v],_,(k.block _ a).trans (World.alloc_heap_new w _)⟩
theorem Iy{w w1:Pv}{v0 v1:Pw}{t:TypeId}(k:K_ (w.alloc (.cells #[v0,v1] t)) w1):w1.cell? ⟨w.heap.size,0,none⟩=some v0/\w1.cell? ⟨w.heap.size,1,none⟩=some v1:=by
 have a:w.heap.size<(w.alloc (.cells #[v0,v1] t)).heap.size:=A9;constructor
 .rw[k.cell a];simp
 .rw[k.cell a];simp
def ET(ts:List Zx):List Ps:=ts.map λt=>t.r.name
def Ko(ts:List Zx):List (Nat×Ps):=ts.map λt=>(t.tb,t.r.name)
def oN(ts:List Zx)(i:Nat):Nat:=(ts.map λt=>t.tb).getD i 0
def uI(Kj:List Qq)(ts:List Zx):Nat:=cZ (Kj.map (·.name)) (Qj (Qk ts))
theorem Ad :∀(l:List Ps) (σ:Env),cZ l σ<=23*l.length
 | [],_=>NQ _
 | n :: l,σ=>by
  have b:=Ad l σ;have c:mi (σ n)<=23:=by
   unfold mi
   split
   .exact NQ _
   .split <;> omega
  have e:cZ (n :: l) σ=mi (σ n)+cZ l σ:=by simp[cZ]
  rw[e,OH];omega
section
variable {B : Nat} {G : bV} {Kj : List Qq} {wz W W' : Pv} {bb : Nat} {a : Pt} {cap : Nat} {rd : Pt} {rn rc : Nat} {mb mx : Nat} {ts : List Zx} {d0 d : Pt} {dc : Nat} {f : Ps -> Pw} {ws : Ps -> List Nat}
theorem jI{l c o:Nat}(a:Obj)(h:c≠l):(W.putObj l a).cell? ⟨c,o,none⟩=W.cell? ⟨c,o,none⟩:=Od (w:=W) (World.putObj_heap_other h)
theorem su{l c o:Nat}(a:Obj)(h:c≠l):(W.putObj l a).frozen? ⟨c,o,none⟩=W.frozen? ⟨c,o,none⟩:=World.frozen?_of_block (w:=W) (World.putObj_heap_other h)
theorem BS.can(h:BS Kj ts ws){t:Zx}(b:t∈ts):aZ (Q_ Kj) (Qj (Qk ts)) t.r↔t.r.over=false/\t.op=0:=by
 obtain⟨A,c,_⟩:=(h.good.good t.r (OP b)).act;rw[Ah (by rw[c];rfl),h.op t b,Og]
theorem Ab{tb:Nat->Nat}{i:Nat}(_hd:∀g,d0=some ⟨g,0,none⟩->g<B):Calm B (λW=>DZ d0 tb i W):=by
 have cl:∀{W:Pv} {c o:Nat} {v:Pw},J4 W c o v->c<W.heap.size:=λ{W c o v} h=>by
  obtain⟨f,a,_⟩:=cells_of_cell h;exact aO a
 have j:∀{W:Pv} {c o l:Nat} {v:Pw} {f:Obj},J4 W c o v->W.heap[l]? =some f->f.isCells=false->c≠l:=λ{W c o l v f} h a d e=>by
  obtain⟨r,b,q⟩:=cells_of_cell h;simp only at b;rw[e,a] at b;cases b;rw[d] at q;cases q
 constructor
 .rintro W o s ⟨g,e,a,d,b⟩;have k:=(K_.refl W).alloc o;exact⟨g,e,(k.cell (cl a)).trans a,(k.cell (cl d)).trans d,(k.cell (cl b)).trans b⟩
 .rintro W l o m t n p ⟨g,e,a,d,b⟩;exact⟨g,e,(jI m (j a n p)).trans a,(jI m (j d n p)).trans d,(jI m (j b n p)).trans b⟩
theorem Gg{v:Pw}{c:Nat}(e:c<B):Calm B (λW=>W.cell? ⟨c,3,none⟩=some v):=by
 constructor
 .intro W o f a;obtain⟨h,b,_⟩:=cells_of_cell a;exact (((K_.refl W).alloc o).cell (aO b)).trans a
 .intro W l o d i j k a;exact (jI d A7).trans a
theorem Jq{tb:Nat->Nat}{i:Nat}(h:DZ d0 tb i W)(k:FV d0 tb i W):False:=by
 obtain⟨g,_,_,c,d⟩:=h;obtain⟨e,_,_,a⟩:=k;rcases a with a|⟨_,f,j,b⟩
 .rw[c] at a;cases a
 .rw[d] at b;simp only[OE,Value.int.injEq,true_and] at b;omega
theorem sj(B:Nat):Calm B (λ_=>False):=⟨λ_ _ _ h=>h,λ_ _ _ _ _ _ _ h=>h⟩
theorem BM.far{G:bV}(h:BM G Kj wz W bb a cap rd rn rc mb mx ts d dc f ws){k:Nat}(l:W.heap.size<=k):k≠bb/\k≠mb/\(∀t∈ts,k≠t.tb/\k∉t.own)/\∀s,(f s).ownBlock≠some k:=by
 have m:=h.row.lt;obtain⟨N,D,_,c,_⟩:=h.map;obtain⟨n,p,e,_⟩:=c;have q:=aO e;refine⟨A7,A7,λt b=>⟨?_,λi=>?_⟩,λs j=>?_⟩
 .have:=(h.fE t b).row.lt;omega
 .have:=((h.fE t b).bH i).2.2;omega
 .have:=((h.jg s).lt k j).2;omega
theorem BM.apart{G:bV}(h:BM G Kj wz W bb a cap rd rn rc mb mx ts d dc f ws){k:Nat}(i:d=some ⟨k,0,none⟩):k<W.heap.size/\k≠bb/\k≠mb/\(∀t∈ts,k≠t.tb/\k∉t.own)/\∀s,(f s).ownBlock≠some k:=by
 subst i;have c:(Value.slice (some ⟨k,0,none⟩) ts.length dc).ownBlock=some k:=rfl;have b:=Yz h.items c;obtain⟨N,D,_,j,_⟩:=h.map;refine⟨(h.items.lt k c).2,aK b h.row.type A8,gV j b,λt e=>⟨aK b (h.fE t e).row.type A8,λl=>aK b ((h.fE t e).bH l).1 A8 rfl⟩,λs m=>h.Ck s k m c⟩
theorem BM.item(h:BM G Kj wz W bb a cap rd rn rc mb mx ts d dc f ws){i:Nat}(hi:i<ts.length):∃g,d=some ⟨g,0,none⟩/\W.cell? ⟨g,i,none⟩=some (.c ((ts[i]).tb)):=by
 have b:=h.items;rcases b.2 with⟨e,_⟩|⟨g,k,l,e,_⟩
 .exfalso
  simp only[OG] at e;omega
 .simp only[OG] at e;obtain⟨rfl,_,rfl⟩:=e;refine⟨g,rfl, ?_⟩;have c:=b.cells (g:=g) rfl i (ts[i]).ptr (by simp[hi]);have j:((⟨g,0,none⟩:Addr).add i)= ⟨g,i,none⟩:=by simp[Addr.add];omega
  rw[j] at c;exact c
theorem BM.sees(k:BM G Kj wz W bb a cap rd rn rc mb mx ts d dc f ws)(p:BS Kj ts ws){i:Nat}(hi:i<ts.length):(DZ d (oN ts) i W/\aZ (Q_ Kj) (Qj (Qk ts)) (ts[i]).r)\/(FV d (oN ts) i W/\¬aZ (Q_ Kj) (Qj (Qk ts)) (ts[i]).r):=by
 obtain⟨g,l,h⟩:=k.item hi;have q:oN ts i= (ts[i]).tb:=by simp[oN,List.getD,hi]
 have m:=k.fE ts[i] (Oa hi);have b:J4 W ((ts[i]).tb) 1 (.bool (ts[i]).r.over):=m.rng 1 _ rfl;have c:J4 W ((ts[i]).tb) 9 (.a ((ts[i]).op:Int)):=m.rng 9 _ rfl;have n:=p.can (Oa hi);rw[<-q] at h b c;by_cases e:aZ (Q_ Kj) (Qj (Qk ts)) (ts[i]).r
 .obtain⟨s,t⟩:=n.1 e;rw[s] at b;rw[t] at c;exact .inl ⟨⟨g,l,h,b,c⟩,e⟩
 .refine .inr ⟨⟨g,l,h, ?_⟩,e⟩;cases j:(ts[i]).r.over with
  | true=>left;rw[b,j]
  | false=>
   right
   exact⟨by rw[b,j],(ts[i]).op,λv=>e (n.2 ⟨j,v⟩),c⟩
end
theorem FQ{ts:List Zx}{l:List Nat}{i:Nat}{t:Zx}(h:ts[i]? =some t):∃u,(iN ts l)[i]? =some u/\u.tb=t.tb/\u.r=t.r:=by
 refine⟨if t.tb∈l then {t with op:=t.op-1} else t,by unfold iN;rw[List.getElem?_map,h];rfl, ?_, ?_⟩
 .by_cases h:t.tb∈l
  .rw[Pe h]
  .rw[Pf h]
 .by_cases h:t.tb∈l
  .rw[Pe h]
  .rw[Pf h]
def Zx.ended(t:Zx)(fl:Bool)(tx:Ps):Zx:={t with r:={t.r with over:=true,fail:=fl,text:=tx}}
section
variable {G : bV} {Kj : List Qq} {wz w w' : Pv} {bb : Nat} {a : Pt} {cap : Nat} {rd : Pt} {rn rc : Nat} {mb mx : Nat} {ts : List Zx} {d : Pt} {dc : Nat} {f : Ps -> Pw} {ws : Ps -> List Nat}
theorem BM.ended(k:BM G Kj wz w bb a cap rd rn rc mb mx ts d dc f ws){i:Nat}{t:Zx}(hi:ts[i]? =some t)(b:Bool)(c:Ps):BM G Kj wz (((w.setCell ⟨t.tb,1,none⟩ (.bool true)).setCell ⟨t.tb,2,none⟩ (.bool b)).setCell ⟨t.tb,3,none⟩ (.string c)) bb a cap rd rn rc mb mx (ts.set i (t.ended b c)) d dc f ws:=by
 have e:i<ts.length:=(NW.1 hi).1;have l:=k.store (t':={t with r:={t.r with over:=true}}) hi (o:=1) (v:= .bool true) A7 rfl rfl rfl rfl rfl rfl rfl rfl rfl rfl;have h:=l.store (t':={t with r:={t.r with over:=true,fail:=b}}) (O_ e) (o:=2) (v:= .bool b) A7 rfl rfl rfl rfl rfl rfl rfl rfl rfl rfl;rw[List.set_set] at h;have j:=h.store (t':=t.ended b c) (O_ e) (o:=3) (v:= .string c) A7 rfl rfl rfl rfl rfl rfl rfl rfl rfl rfl;rw[List.set_set] at j;exact j
theorem nM(hB:BM G Kj wz w bb a cap rd rn rc mb mx ts d dc f ws){i:Nat}{t:Zx}(hi:ts[i]? =some t)(D:Bool)(E:Ps)(b8:t.r.name.size<=1000)(b9:(ws t.r.name).length<=1000)(hw:∀b∈ws t.r.name,∃(j:Nat) (u:Zx),(ts.set i (t.ended D E))[j]? =some u/\u.tb=b/\1<=u.op/\u.op<=1000)(b1:(ws t.r.name).Nodup):
  Calls prog 116 #[.c bb,.c t.tb,.bool D,.string E] w λe w'=>e= .returned (.tuple #[])/\BM G Kj wz w' bb a cap rd rn rc mb mx (iN (ts.set i (t.ended D E)) (ws t.r.name)) d dc (λn=>if n=t.r.name then J3 else f n) (λn=>if n=t.r.name then [] else ws n):=by
 obtain⟨x,hm⟩:=ai ((ws t.r.name).length);have R:=hB.at hi;obtain⟨⟨_,x1⟩,f1⟩:=R.row.row.at (i:=1) A7;obtain⟨⟨_,x2⟩,f2⟩:=R.row.row.at (i:=2) A7;obtain⟨⟨_,x3⟩,f3⟩:=R.row.row.at (i:=3) A7;have tz:=R.row.lt;obtain⟨W1,a2⟩:=ai (((w.setCell ⟨t.tb,1,none⟩ (.bool true)).setCell ⟨t.tb,2,none⟩ (.bool D)).setCell ⟨t.tb,3,none⟩ (.string E));have a1:BM G Kj wz W1 bb a cap rd rn rc mb mx (ts.set i (t.ended D E)) d dc f ws:=by
  rw[a2];exact hB.ended hi D E
 obtain⟨va,vc,hf⟩:=ay (a1.jg t.r.name);rw[<-hm] at hf;have b2:i<ts.length:=(NW.1 hi).1;have a3:(ts.set i (t.ended D E))[i]? =some (t.ended D E):=by rw[O_ b2]
 obtain⟨T1,a4⟩:=ai (ts.set i (t.ended D E));rw[<-a4] at a1 a3 hw⊢;have⟨c0,I,a5,Hf,H⟩:=jH a4 a1 a3 hf hm;have⟨HW,HN⟩:=aH hw b1;have c1:x<=1000:=A7;have S:Hid (∀w',K_ W1 w'->J4 w' bb 5 (.map (some mb))/\J4 w' t.tb 0 (.string t.r.name)/\(Instr.lookup 117 (.map (some mb)) (.string t.r.name) false).run prog w'= .ok (.slice va x vc) w'):=λw' K=>⟨(I.o.kept K).c5,((I.o.kept K).at a5.o).rng 0 _ rfl,by rw[<-Hf.o];exact (I.o.kept K).look D5⟩
 clear hB a1 R hi a3 a4 hf hm hw b1 b2;go_enter func116,ntmps116
 go_upto_region 1 with fail
 rw[<-a2];clear a2 x1 x2 x3 f1 f2 f3 tz;refine bn 10 S.o λwd y q=>?_
 refine ax 0 q ?_;refine ax 4 q ?_;refine ae 8 q ?_;refine ae 9 q ?_;refine iy 10 11 (λK c=>?_) (λK c=>?_)
 .rw[Pe D8];go_simp
  refine af c (λ_=>S.o _ y) ?_;clear c K;refine aj 11 (λK c=>?_);go_simp
  refine af c (λ_=>S.o _ y) ?_;clear c K;refine aG ?_;have T:=Kz (I.o.kept y);clear q;go_wp2
  go_loopw [35] (λJ wr=>∃k:Nat,k<=x/\J= .a k/\BM G Kj wz wr bb a cap rd rn rc mb mx (iN T1 ((ws t.r.name).take k)) d dc f ws) (λJ _=>x-(intOf J).toNat)
  case atStart=>exact⟨0,NS _,rfl,by rw[List.take_zero,Dx];exact T.o⟩
  case round=>
   clear T y;obtain⟨k,hk,rfl,m⟩:=hrel;by_cases b3:k<x
   .obtain⟨p,z⟩:∃p,(ws t.r.name)[k]? =some p:=⟨_,NV (by have:=H.o;omega)⟩;have U:p∈ws t.r.name:=Oe z;obtain⟨j,u,V,L,b4,b5⟩:=HW.o p U;have A:(ws t.r.name).take (k+1)= (ws t.r.name).take k++ [p]:=by
     obtain⟨B,C⟩:=NW.1 z;rw[NY B,C]
    have W:p∉(ws t.r.name).take k:=λh=>by
     have a6:=HN.o;obtain⟨B,C⟩:=NW.1 z;obtain⟨a7,hq,e⟩:=Oc h;rw[Oo] at hq;rw[OA] at e;have:=Ob.1 a6 a7 k A7 B A7;exact this (e.trans C.symm)
    obtain⟨M,N⟩:=Az I.o.tbs W V L;rw[<-A] at M;have F:=m.at N;have o9:J4 wr u.tb 9 (.a (u.op:Int)):=F.rng 9 _ rfl;have uz:=F.row.lt;obtain⟨_,g9⟩:=F.row.row.at (i:=9) A7;have O:=m.jg t.r.name;rw[Hf.o] at O;obtain⟨b,o,rfl,hb,X⟩:=eD (by have:=O;rw[<-H.o] at this;exact this) k (by simp;have:=H.o;omega);have b6:wr.cell? ⟨b,o+k,none⟩=some (.c u.tb):=by rw[X k (lM p) (by simp[z]),<-L];rfl
    have P:=Kz (m.store (t':={u with op:=u.op-1}) N (o:=9) (v:= .a ((u.op-1:Nat):Int)) A7 rfl rfl rfl rfl rfl rfl rfl rfl rfl rfl);rw[<-M] at P;have Y:((u.op-1:Nat):Int)= (u.op:Int)-1:=A7;rw[Y] at P;have i0:(k:Int)<(x:Int):=A7;clear X O F M N A W U z V L Y m;go_wp2
    go_roundw
    case rel=>exact⟨k+1,A7,C8,P.o⟩
    case measure=>simp[intOf];omega
   .obtain rfl:k=x:=A7;have A:(ws t.r.name).take k=ws t.r.name:=by rw[H.o];exact Ox
    rw[A] at m;have Q:=Kz m;clear m A;have a8:=Kz (FQ (l:=ws t.r.name) a5.o);have a9:Hid (∀w',K_ wr w'->J4 w' bb 5 (.map (some mb))/\J4 w' t.tb 0 (.string t.r.name)):=λw' K=>⟨(Q.o.kept K).c5,by obtain⟨u,B,C,h3⟩:=a8.o;have Z:=((Q.o.kept K).at B).rng 0 _ rfl;rw[C,h3] at Z;exact Z⟩
    go_upto_region 6 with fail
    refine bn 9 a9.o λwd y q=>?_
    refine ax 0 q ?_;refine ax 4 q ?_;refine ae 8 q ?_;obtain⟨w9,b7,_,a0⟩:=(Q.o.kept y).del (s:=t.r.name) D5 0;have b0:=Kz a0;clear a0;refine aF 9 (λK c=>?_);go_simp
    refine af c (λh=>Pg rfl h) ?_;clear c K;refine aG ?_;go_wp2
    go_end0
    exact⟨rfl,b0.o⟩
 .rw[Pe D8];go_simp
  refine af c (λ_=>S.o _ y) ?_;clear c K;refine aj 10 (λK c=>?_);go_simp
  refine af c (λ_=>S.o _ y) ?_;clear c K;refine aG ?_;have T:=Kz (I.o.kept y);clear q;go_wp2
  go_loopw [35] (λJ wr=>∃k:Nat,k<=x/\J= .a k/\BM G Kj wz wr bb a cap rd rn rc mb mx (iN T1 ((ws t.r.name).take k)) d dc f ws) (λJ _=>x-(intOf J).toNat)
  case atStart=>exact⟨0,NS _,rfl,by rw[List.take_zero,Dx];exact T.o⟩
  case round=>
   clear T y;obtain⟨k,hk,rfl,m⟩:=hrel;by_cases b3:k<x
   .obtain⟨p,z⟩:∃p,(ws t.r.name)[k]? =some p:=⟨_,NV (by have:=H.o;omega)⟩;have U:p∈ws t.r.name:=Oe z;obtain⟨j,u,V,L,b4,b5⟩:=HW.o p U;have A:(ws t.r.name).take (k+1)= (ws t.r.name).take k++ [p]:=by
     obtain⟨B,C⟩:=NW.1 z;rw[NY B,C]
    have W:p∉(ws t.r.name).take k:=λh=>by
     have a6:=HN.o;obtain⟨B,C⟩:=NW.1 z;obtain⟨a7,hq,e⟩:=Oc h;rw[Oo] at hq;rw[OA] at e;have:=Ob.1 a6 a7 k A7 B A7;exact this (e.trans C.symm)
    obtain⟨M,N⟩:=Az I.o.tbs W V L;rw[<-A] at M;have F:=m.at N;have o9:J4 wr u.tb 9 (.a (u.op:Int)):=F.rng 9 _ rfl;have uz:=F.row.lt;obtain⟨_,g9⟩:=F.row.row.at (i:=9) A7;have O:=m.jg t.r.name;rw[Hf.o] at O;obtain⟨b,o,rfl,hb,X⟩:=eD (by have:=O;rw[<-H.o] at this;exact this) k (by simp;have:=H.o;omega);have b6:wr.cell? ⟨b,o+k,none⟩=some (.c u.tb):=by rw[X k (lM p) (by simp[z]),<-L];rfl
    have P:=Kz (m.store (t':={u with op:=u.op-1}) N (o:=9) (v:= .a ((u.op-1:Nat):Int)) A7 rfl rfl rfl rfl rfl rfl rfl rfl rfl rfl);rw[<-M] at P;have Y:((u.op-1:Nat):Int)= (u.op:Int)-1:=A7;rw[Y] at P;have i0:(k:Int)<(x:Int):=A7;clear X O F M N A W U z V L Y m;go_wp2
    go_roundw
    case rel=>exact⟨k+1,A7,C8,P.o⟩
    case measure=>simp[intOf];omega
   .obtain rfl:k=x:=A7;have A:(ws t.r.name).take k=ws t.r.name:=by rw[H.o];exact Ox
    rw[A] at m;have Q:=Kz m;clear m A;have a8:=Kz (FQ (l:=ws t.r.name) a5.o);have a9:Hid (∀w',K_ wr w'->J4 w' bb 5 (.map (some mb))/\J4 w' t.tb 0 (.string t.r.name)):=λw' K=>⟨(Q.o.kept K).c5,by obtain⟨u,B,C,h3⟩:=a8.o;have Z:=((Q.o.kept K).at B).rng 0 _ rfl;rw[C,h3] at Z;exact Z⟩
    go_upto_region 6 with fail
    refine bn 9 a9.o λwd y q=>?_
    refine ax 0 q ?_;refine ax 4 q ?_;refine ae 8 q ?_;obtain⟨w9,b7,_,a0⟩:=(Q.o.kept y).del (s:=t.r.name) D5 0;have b0:=Kz a0;clear a0;refine aF 9 (λK c=>?_);go_simp
    refine af c (λh=>Pg rfl h) ?_;clear c K;refine aG ?_;go_wp2
    go_end0
    exact⟨rfl,b0.o⟩
end
def JZ(P:Program)(gf:Nat)(lb:Array Pw)(encs:Nat->Array Pw)(V N:Nat->Pv->Prop)(n:Nat)(ok:Pv->Prop):Prop:=
 ∀(l:Nat) (J:Nat->Pv->Prop) (Jx:Pv->Prop) (W:Pv),ok W->
  (∀i W1,i<n->J i W1->(V i W1/\YieldAt Fence.wide 7 P l (encs i) W1 λe W'=>(e= .returned (.bool true)/\J (i+1) W')\/(e= .returned (.bool false)/\Jx W'))\/(N i W1/\J (i+1) W1))->
  J 0 W->CallsIn Fence.wide 8 P gf (#[.func (.yield l) #[] #[]]++lb) W λe W'=>(∃v,e= .returned v)/\(J n W'\/Jx W')
variable {n : Nat} {w : Pv}
theorem Dr{P:Program}{g:Operand}{ps:Array Tmp}{assign body:Code}{U:Exit->Act->Pv->Prop}{a:Act}{E:Nat}{L:Array Pw}{M:Nat->Array Pw}{V N:Nat->Pv->Prop}{O:Pv->Prop}
 (a7:JZ P E L M V N n O) (hg:a.eval g= .func (.func E) #[] L) (eg:∀args w,(callFunc E args).run P w= .ok (.enter E args) w) (a1:Calm w.heap.size O) (a8:O w) (a9:∀i,(M i).size=ps.size)
 (I:Nat->Pv->Prop) (Q:Code->Pv->Prop) (H:∀i,Calm w.heap.size (I i)) (R:∀c,Calm w.heap.size (Q c)) (h0:I 0 w) (a₁:Nat->Act)
 (b0:∀(l i:Nat) (W:Pv) (K:Act->Pv->Prop),K (a₁ i) W->assign.wpIn (Fence.wide.inRound l) 7 P (Exit.then K (λ_ _ _=>False)) {tmps:=(ps.zip (M i)).foldl (λt (p,v)=>t.setIfInBounds p v) a.tmps,defers:=[]} W)
 (hV:∀i,Calm w.heap.size (V i))
 (b1:∀(i:Nat) (W:Pv),i<n->I i W->(V i W/\∀l W',V i W'->I i W'->w.heap.size<=W'.heap.size->body.wpIn (Fence.wide.inRound l) 7 P (roundEnd w.heap.size (I (i+1)) Q W') (a₁ i) W')\/(N i W/\I (i+1) W))
 (b2:∀(D:Nat) (W:Pv),w.heap.size<=D->I n W->W.heap[D]? =some (.deferred (some []))->U .normal {a with defers:={target:= .collected D,args:= #[]} :: a.defers} W)
 (b3:∀(D:Nat) (c:Code) (W:Pv),w.heap.size<=D->Q c W->W.heap[D]? =some (.deferred (some []))->c.wpIn Fence.wide 9 P U {a with defers:={target:= .collected D,args:= #[]} :: a.defers} W):
  (Code.rangeFunc g ps assign body).wpIn Fence.wide 9 P U a w:=by
 refine wpIn_rangeFunc λfn b4=>?_
 obtain⟨D,hD⟩:=ai w.heap.size;obtain⟨b,f⟩:∃b:LoopState->Option Code->Loop,b=λs q=>{state:=s,pending:=q,fn,tmps:=a.tmps,params:=ps,assign,body,defers:=D}:=⟨_,rfl⟩
 have es:∀s q x X,({b s q with state:=x,pending:=X}:Loop)=b x X:=λs q x X=>by rw[f]
 have b5:∀s q x,({b s q with state:=x}:Loop)=b x q:=λs q x=>by rw[f]
 obtain⟨h,Y⟩:∃h,(w.alloc (.deferred (some []))).alloc (.loop (b .ready none))=h:=⟨_,rfl⟩;have z1:w.heap.size<=(w.alloc (.deferred (some []))).heap.size:=by rw[OC];omega
 have S:h.heap[D+1]? =some (.loop (b .ready none))/\h.heap[D]? =some (.deferred (some []))/\I 0 h/\O h:=by
  rw[<-Y,hD];refine⟨?_, ?_,(H 0).1 _ _ z1 ((H 0).1 _ _ (NQ _) h0),a1.1 _ _ z1 (a1.1 _ _ (NQ _) a8)⟩
  .have:=World.alloc_heap_new (w.alloc (.deferred (some []))) (.loop (b .ready none))
   rwa [OC] at this
  .exact (Below.heap_alloc _ _ _ A9).trans (World.alloc_heap_new w _)
 refine⟨D+1,[{target:= .collected D,args:= #[]}],h,{target:= .fn (.func E) L,args:= #[.func (.yield (D+1)) #[] #[]]},h,E,#[.func (.yield (D+1)) #[] #[]]++L,h, ?_, ?_,λ_ _=>trivial, ?_,λ_=>A7, ?_⟩
 .rw[<-Y,f,hD];exact run_enterLoop_outer _ _ _ _ _
 .simp only[resolve,hg];simp[go_sem]
 .simp[invoke,go_sem,eg]
 refine (a7 (D+1) (λi W=>I i W/\w.heap.size<=W.heap.size/\W.heap[D+1]? =some (.loop (b .ready none))/\W.heap[D]? =some (.deferred (some []))) (λW=>∃c,Q c W/\W.heap[D+1]? =some (.loop (b .done (some c)))/\W.heap[D]? =some (.deferred (some []))) h S.2.2.2 ?_ ⟨S.2.2.1,by rw[<-Y];simp;omega,S.1,S.2.1⟩).mono ?_
 .rintro i W J ⟨a2,Z,e,F⟩;have b6:D+1<W.heap.size:=(OB.1 e).1;rcases b1 i W J a2 with⟨a4,b7⟩|⟨b8,b9⟩
  .refine .inl ⟨a4, ?_⟩;have hy:=run_yield (P:=P) (args:=M i) e (by rw[f];exact a9 i);rw[f] at hy;refine⟨fn,_,assign,body,hy, ?_⟩;refine roundIn_of_wpIn b4 (b0 _ i W _ ⟨_,run_beginRound e (by rw[f]), ?_⟩);obtain⟨m,G⟩:∃m,W.putObj (D+1) (.loop {b .ready none with state:= .busy})=m:=⟨_,rfl⟩;rw[G];have c0:m.heap[D+1]? =some (.loop (b .busy none)):=by rw[<-G,World.putObj_heap_same b6,b5]
   have c1:m.heap[D]? =some (.deferred (some [])):=by rw[<-G,World.putObj_heap_other A7];exact F
   have a5:w.heap.size<=m.heap.size:=by rw[<-G,World.putObj_size];exact Z
   have c2:I i m:=by rw[<-G];exact (H i).2 _ _ _ _ A7 e rfl a2
   have c3:V i m:=by rw[<-G];exact (hV i).2 _ _ _ _ A7 e rfl a4
   refine wpIn_mono (b7 _ m c3 c2 a5) ?_;have fin:∀(r:Option Code) (j:Pv),KeepsFrom w.heap.size m j->
     ∃d,(Instr.endRound (D+1) r).run P j= .ok (.bool r.isNone) d/\d=j.putObj (D+1) (.loop (b (if r.isNone then .ready else .done) r))/\j.heap[D+1]? =some (.loop (b .busy none))/\d.heap[D+1]? =some (.loop (b (if r.isNone then .ready else .done) r))/\d.heap[D]? =some (.deferred (some []))/\w.heap.size<=d.heap.size:=λr j hk=>by
    have a0:=hk.same _ _ A7 c0 rfl;have c4:=hk.same _ _ A7 c1 rfl;refine⟨_,run_endRound (P:=P) r a0,by rw[es],a0, ?_, ?_, ?_⟩
    .rw[es];exact World.putObj_heap_same (OB.1 a0).1
    .rw[World.putObj_heap_other A7];exact c4
    .rw[World.putObj_size];exact NT a5 hk.size
   intro a6 a3 j k;cases a6 with
   | normal=>
    obtain⟨d,y,z,A,B,C,T⟩:=fin none j k.1;exact⟨_,d,y,.inl ⟨rfl,by rw[z];exact (H _).2 _ _ _ _ A7 A rfl k.2,T,B,C⟩⟩
   | ret=>
    obtain⟨d,y,z,A,B,C,T⟩:=fin (some .ret) j k.1;exact⟨_,d,y,.inr ⟨rfl,.ret,by rw[z];exact (R _).2 _ _ _ _ A7 A rfl k.2,B,C⟩⟩
   | exit id=>
    obtain⟨d,y,z,A,B,C,T⟩:=fin (some (.exit id)) j k.1;exact⟨_,d,y,.inr ⟨rfl,.exit id,by rw[z];exact (R _).2 _ _ _ _ A7 A rfl k.2,B,C⟩⟩
   | goto t=>
    obtain⟨d,y,z,A,B,C,T⟩:=fin (some (.goto t)) j k.1;exact⟨_,d,y,.inr ⟨rfl,.goto t,by rw[z];exact (R _).2 _ _ _ _ A7 A rfl k.2,B,C⟩⟩
   | panic ch=>exact k.elim
   | outgrown=>exact k.elim
  .exact .inr ⟨b8,b9,Z,e,F⟩
 .rintro a6 W2 ⟨⟨v,rfl⟩,(⟨J,Z,e,F⟩|⟨c,J,e,F⟩)⟩
  .refine⟨none,_,by have:=run_endLoop (P:=P) e (by rw[f];simp);rw[f] at this;exact this, ?_⟩;exact b2 D _ A7 ((H n).2 _ _ _ _ A7 e rfl J) (by rw[World.putObj_heap_other A7];exact F)
  .refine⟨some c,_,by have:=run_endLoop (P:=P) e (by rw[f];simp);rw[f] at this;exact this, ?_⟩;exact b3 D c _ A7 ((R c).2 _ _ _ _ A7 e rfl J) (by rw[World.putObj_heap_other A7];exact F)
def lU(V:Nat->Nat)(f n i:Nat):Pw:= .a ((if i<60 then V i else if i=60 then f else n:Nat):Int)
structure ib (w:Pv) (rb:Nat) (Q:List Nat):Prop where
 ex:∃V f,f<60/\Q.length<=60/\w.rowIs rb 197 62 (lU V f Q.length)/\∀i,i<Q.length->V ((f+i) % 60)=Q.getD i 0
variable {w' : Pv}
theorem ib.block{a:Nat}{Q:List Nat}(h:ib w a Q)(k:w'.heap[a]? =w.heap[a]?):ib w' a Q:=by
 obtain⟨V,f,b,d,⟨c,e,i⟩,j⟩:=h;exact⟨V,f,b,d,⟨c,k.trans e,i⟩,j⟩
variable {b : Nat} {F : Nat -> Pw} {t : TypeId}
theorem nX{G:Nat->Pw}(h:w.rowIs b t n F)(i:Nat)(v:Pw)(d:∀p,p<n->G p=if p=i then v else F p):(w.setCell ⟨b,i,none⟩ v).rowIs b t n G:=by
 obtain⟨c,e,f,j⟩:=World.rowIs.set h i v;refine⟨c,e,f,λp a=>?_⟩;rw[j p a,d p a]
theorem jG(h:w.rowIs b t n F)(k:K_ w w'):w'.rowIs b t n F:=by
 obtain⟨c,a,e⟩:=h;exact⟨c,(k.block b (aO a)).trans a,e⟩
theorem wH(w:Pv)(a:Nat)(Q:List Nat)(p:Nat)(x:ib w a Q)(F:Q.length<60):
  Calls prog 138 #[.c a,.a (p:Int)] w λe w'=>e= .returned (.tuple #[])/\ib w' a (Q++ [p])/\But (λb=>b=a) w w':=by
 obtain⟨V,f,H,hn,c,y⟩:=x.ex;obtain⟨n,r⟩:=ai Q.length;rw[<-r] at c F;obtain⟨k,z⟩:=ai ((f+n) % 60);have I:k<60:=A7;have J:w.cell? ⟨a,60,none⟩=some (.a (f:Int)):=by rw[c.cell A7];rfl
 have A:w.cell? ⟨a,61,none⟩=some (.a (n:Int)):=by rw[c.cell A7];rfl
 have K:((f:Int)+ (n:Int)).tmod 60= (k:Int):=by rw[Int.tmod_eq_emod_of_nonneg A7];omega
 have s:=λi=>c.frozen i
 have L:=s k;have B:=s 61;have a1:(k:Int)<60:=A7;have M:=c.cell (show k<62 by omega);have t:=nX c k (.a (p:Int)) (G:=lU (λi=>if i=k then p else V i) f n) (λi h=>by
  unfold lU;by_cases e:i=k
  .subst e;simp[I]
  .simp[e])
 obtain⟨d,j⟩:=ai (w.setCell ⟨a,k,none⟩ (.a (p:Int)));rw[<-j] at t;have C:But (λb=>b=a) w d:=by rw[j];exact But.set (S:=λb=>b=a) (But.au (K_.refl w)) (p:=⟨a,k,none⟩) rfl _
 have⟨N,O⟩:=aH t C;have P:Hid (∀i,i<Q.length->V ((f+i) % 60)=Q.getD i 0):=y;have R:Hid (k= (f+n) % 60):=z;have v:Hid (n=Q.length):=r;clear c s t C y z r x;go_enter func138,ntmps138
 go_wp2
 go_region
 rw[<-j];have l:K_ d d.drew:=bD d;generalize T:d.drew=U at l⊢;clear j T J A L B M K;have m:=jG N.o l;have A:U.cell? ⟨a,61,none⟩=some (.a (n:Int)):=by rw[m.cell A7];rfl
 have B:=m.frozen 61;have W:=Kz m;have X:=Kz (O.o.trans (But.au l));clear m l;go_wp2
 go_end0
 refine⟨rfl,⟨λi=>if i=k then p else V i,f,H,by rw[OD];simp;have:=v.o;omega, ?_,λi h=>?_⟩,But.set (S:=λb=>b=a) X.o (p:=⟨a,61,none⟩) rfl _⟩
 .rw[OD];refine nX W.o 61 _ (λi h=>?_);unfold lU;have q:=v.o;by_cases e:i=61
  .subst e;simp[q]
  .have Y:¬i<60->i=60:=A7;by_cases D:i<60
   .simp[D,e]
   .simp[Y D]
 .rw[OD] at h;have q:=v.o;have Z:=R.o;by_cases e:i=Q.length
  .subst e;simp only[<-q,<-Z,if_true,List.getD];rw[q];simp
  .have E:i<Q.length:=by simp at h;omega
   have a0:(f+i) % 60≠k:=A7;simp only[Pf a0,P.o i E,List.getD,OU E]
theorem yg(w:Pv)(a:Nat)(Q:List Nat)(p:Nat)(x:ib w a (p :: Q)):
  Calls prog 139 #[.c a] w λe w'=>e= .returned (.a (p:Int))/\ib w' a Q/\But (λb=>b=a) w w':=by
 obtain⟨V,f,y,J,c,q⟩:=x.ex;obtain⟨n,j⟩:=ai Q.length;have z:V f=p:=by have:=q 0 A9;simpa[Nat.mod_eq_of_lt y] using this
 rw[OH,<-j] at c;rw[OH,<-j] at J;have X:(f:Int)<60:=A7;have A:Hid (∀u,w.rowIs a 197 62 (lU V f (n+1))->K_ w u->u.cell? ⟨a,60,none⟩=some (.a (f:Int))/\u.cell? ⟨a,f,none⟩=some (.a (p:Int))):=λu c k=>by
  have B:=jG c k;refine⟨by rw[B.cell A7];rfl, ?_⟩;rw[B.cell A7];unfold lU;rw[Pe y,z]
 obtain⟨r,C⟩:=A.o w c (K_.refl w);have D:=Kz c;have K:Hid (∀i,i<Q.length->V ((f+ (i+1)) % 60)=Q.getD i 0):=λi l=>by have:=q (i+1) D6;simpa using this
 have E:Hid (n=Q.length):=j;clear c q j x z A;go_enter func139,ntmps139
 go_wp2
 go_region
 have s:K_ w w.drew:=bD w;generalize L:w.drew=t at s⊢;clear L r C;have m:=jG D.o s;have r:t.cell? ⟨a,60,none⟩=some (.a (f:Int)):=by rw[m.cell A7];rfl
 obtain⟨k,F⟩:=ai ((f+1) % 60);have M:((f:Int)+1).tmod 60= (k:Int):=by rw[Int.tmod_eq_emod_of_nonneg A7];omega
 have N:=m.frozen 60;have⟨O,H⟩:=aH m F;clear m D F;go_upto_region 3 with fail
 have d:=nX O.o 60 (.a (k:Int)) (G:=lU V k (n+1)) (λi l=>by
  unfold lU;by_cases e:i=60
  .subst e;simp
  .by_cases h:i<60
   .simp[h,e]
   .simp[h,e])
 have v:But (λb=>b=a) w (t.setCell ⟨a,60,none⟩ (.a (k:Int))):=But.set (S:=λb=>b=a) (But.au s) (p:=⟨a,60,none⟩) rfl _;generalize P:t.setCell ⟨a,60,none⟩ (.a (k:Int))=R at d v⊢;clear P r N M;have C:R.cell? ⟨a,61,none⟩=some (.a ((n+1:Nat):Int)):=by rw[d.cell A7];rfl
 have Y:=d.frozen 61;have Z:((n+1:Nat):Int)-1= (n:Int):=A7;have I:=nX d 61 (.a (n:Int)) (G:=lU V k n) (λi l=>by
  unfold lU;by_cases e:i=61
  .subst e;simp
  .have T:¬i<60->i=60:=A7;by_cases h:i<60
   .simp[h,e]
   .simp[T h])
 have U:=Kz I;have W:=Kz (But.set (S:=λb=>b=a) v (p:=⟨a,61,none⟩) rfl (.a (n:Int)));clear d I v;go_wp2
 go_ret
 refine⟨rfl,⟨V,k, ?_, ?_, ?_,λi l=>?_⟩,W.o⟩
 .rw[H.o];omega
 .have:=E.o;omega
 .rw[<-E.o];exact U.o
 .rw[<-K.o i l];have:=H.o
  congr 1
  omega
theorem vk{P:Program}{id:Nat}{d:Array Oper}{Q:Exit->Act->Pv->Prop}{a:Act}(J:Act->Act->Pv->Prop)(h:(Code.region id d true).wp P (λx b u=>x= .normal/\J a b u) a w)(i:∀b u,J a b u->Q .normal b u):(Code.region id d true).wp P Q a w:=
 wp_mono h λe b u c=>by
  obtain⟨rfl,c⟩:=c;exact i b u c
def iP(n:Nat):Pw:= .a (n:Int)
theorem fU(h:w.rowIs b t n F):bf w b t:=by
 obtain⟨c,d,_⟩:=h;exact⟨c,_,d⟩
theorem dL(h:w.rowIs b t n F)(k:w'.heap[b]? =w.heap[b]?):w'.rowIs b t n F:=by
 obtain⟨c,d,e⟩:=h;exact⟨c,k.trans d,e⟩
theorem dP(h:w.rowIs b t n F):b<w.heap.size:=by
 obtain⟨d,c,_⟩:=h;exact aO c
theorem Av{G:Nat->Pw}(h:w.rowIs b t n F)(e:∀p,p<n->G p=F p):w.rowIs b t n G:=by
 obtain⟨c,d,f,i⟩:=h;exact⟨c,d,f,λp a=>by rw[i p a,e p a]⟩
def oL(w:Pv)(a:Pt)(l:List Nat):Prop:=∀i,i<l.length->∃b o,a=some ⟨b,o,none⟩/\b<w.heap.size/\w.cell? ⟨b,o+i,none⟩=some (.a ((l.getD i 0:Nat):Int))
theorem oL.kept{a:Pt}{l:List Nat}(h:oL w a l)(k:K_ w w'):oL w' a l:=λi c=>by
 obtain⟨d,o,e,b,f⟩:=h i c;exact⟨d,o,e,NR b k.size,(k.cell b).trans f⟩
theorem nW{base:Nat}{v:Pw}{l:List Nat}(h:w.ownsRow base t 1 v n (l.map iP))(f:n=l.length):∃a cap,v= .slice a l.length cap/\n<=cap/\oL w a l:=by
 obtain⟨a,cap,rfl⟩:=ay h;refine⟨a,cap,by rw[f], ?_,λi d=>?_⟩
 .rcases h.2 with⟨e,c⟩|⟨_,_,_,e,_,_,c,_⟩
  .simp only[OG] at e;omega
  .simp only[OG] at e;omega
 .obtain⟨b,o,c,j,k⟩:=eD h i (by simpa using d);exact⟨b,o,c,j,by have:=k i (iP (l.getD i 0)) (by simp[List.getD,d]);exact this⟩
structure pg (w:Pv) (base n:Nat) (blk:Bool->Nat) (g:Bool->Nat->Pw) (L:Bool->Nat->List Nat):Prop where
 row:∀c,w.rowIs (blk c) 27 n (g c)
 ne:blk true≠blk false
 own:∀c p,w.ownsRow base 3 1 (g c p) (L c p).length ((L c p).map iP)
 sep:∀c p c' p',¬(c'=c/\p'=p)->∀x,(g c p).ownBlock=some x->(g c' p').ownBlock≠some x
section
variable {w w1 w' : Pv} {base n : Nat} {blk : Bool -> Nat} {g : Bool -> Nat -> Pw} {L : Bool -> Nat -> List Nat}
theorem pg.but{S:Nat->Prop}(h:pg w base n blk g L)(k:But S w w')(d:∀c,¬S (blk c))(h2:∀c p b,(g c p).ownBlock=some b->¬S b):pg w' base n blk g L:=
 ⟨λc=>dL (h.row c) (k.block _ (dP (h.row c)) (d c)),h.ne,λc p=>k.owns (h.own c p) (h2 c p),h.sep⟩
theorem pg.kept(h:pg w base n blk g L)(k:K_ w w'):pg w' base n blk g L:=h.but (S:=λ_=>False) (But.au k) (λ_=>id) (λ_ _ _ _=>id)
theorem pg.put(h:pg w base n blk g L)(b:Bool)(p:Nat){d:Pw}{x:Nat}(v:w1.ownsRow base 3 1 d ((L b p).length+1) ((L b p).map iP++ [iP x]))(D:w.grownBy w1 (g b p).ownBlock)(E:∀y,d.ownBlock=some y->(g b p).ownBlock=some y\/w.heap.size<=y):
  pg (w1.setCell ⟨blk b,p,none⟩ d) base n blk (λc q=>if c=b/\q=p then d else g c q) (λc q=>if c=b/\q=p then L b p++ [x] else L c q)/\But (λy=>(g b p).ownBlock=some y\/y=blk b) w (w1.setCell ⟨blk b,p,none⟩ d):=by
 have s:But (λy=>(g b p).ownBlock=some y) w w1:=But.aI D (λy e=>e);have f:∀c,w1.rowIs (blk c) 27 n (g c):=λc=>dL (h.row c) (s.block _ (dP (h.row c)) (λe=>aK (fU (h.row c)) (Yz (h.own b p) e) A8 rfl))
 have k:But (λy=>y=blk b) w1 (w1.setCell ⟨blk b,p,none⟩ d):=But.set (S:=λy=>y=blk b) (But.au (K_.refl w1)) (p:=⟨blk b,p,none⟩) rfl d;have z:∀c q,¬(c=b/\q=p)->w1.ownsRow base 3 1 (g c q) (L c q).length ((L c q).map iP):=λc q l=>s.owns (h.own c q) (λy e a=>h.sep c q b p (λA=>l ⟨A.1.symm,A.2.symm⟩) y e a)
 refine⟨⟨λc=>?_,h.ne,λc q=>?_,λc q m r l y i=>?_⟩, ?_⟩
 .by_cases e:c=b
  .subst e;exact nX (f c) p d (λq I=>A9)
  .refine Av (dL (f c) (k.block _ (dP (f c)) (λa=>?_))) (λq _=>by simp[e]);have j:=h.ne;cases c <;> cases b <;> first | exact e rfl | exact j a | exact j a.symm
 .by_cases e:c=b/\q=p
  .simp only[Pe e,OD,Pi,Pm,List.map_cons,List.map_nil];exact k.owns v (λy t a=>aK (Yz v t) (fU (f b)) A8 a)
  .simp only[Pf e];exact k.owns (z c q e) (λy t a=>aK (Yz (z c q e) t) (fU (f b)) A8 a)
 .have B:∀c q,¬(c=b/\q=p)->∀y,d.ownBlock=some y->(g c q).ownBlock≠some y:=λc q F y G C=>by
   rcases E y G with j|j
   .exact h.sep b p c q F y j C
   .have:=((h.own c q).lt y C).2;omega
  by_cases e:c=b/\q=p
  .simp only[Pe e] at i;have a:¬(m=b/\r=p):=λa=>l ⟨a.1.trans e.1.symm,a.2.trans e.2.symm⟩
   simp only[Pf a];exact B m r a y i
  .simp only[Pf e] at i;by_cases a:m=b/\r=p
   .simp only[Pe a];exact λH=>B c q e y H i
   .simp only[Pf a];exact h.sep c q m r l y i
 .exact (s.mono (λy _ e=>Or.inl e)).trans (k.mono (λy _ e=>Or.inr e))
end
structure rG (w:Pv) (na:Pt) (nm:List Ps) (nb mb:Nat) (need back:Nat->List Nat):Prop where
 names:Strs w na nm
 nbl:nb<w.heap.size
 mbl:mb<w.heap.size
 fwd:∀p,p<nm.length->∃a c,w.cell? ⟨nb,p,none⟩=some (.slice a (need p).length c)/\oL w a (need p)
 bwd:∀p,p<nm.length->∃a c,w.cell? ⟨mb,p,none⟩=some (.slice a (back p).length c)/\oL w a (back p)
theorem rG.kept{f:Pt}{nm:List Ps}{i mb:Nat}{need back:Nat->List Nat}(h:rG w f nm i mb need back)(k:K_ w w'):rG w' f nm i mb need back:=
 ⟨h.names.kept k,NR h.nbl k.size,NR h.mbl k.size,λp b=>by
  obtain⟨a,c,d,e⟩:=h.fwd p b;exact⟨a,c,(k.cell h.nbl).trans d,e.kept k⟩,λp b=>by
  obtain⟨a,c,d,e⟩:=h.bwd p b;exact⟨a,c,(k.cell h.mbl).trans d,e.kept k⟩⟩
theorem pg.read{base:Nat}{blk:Bool->Nat}{g:Bool->Nat->Pw}{L:Bool->Nat->List Nat}{d:Pt}{nm:List Ps}(h:pg w base nm.length blk g L)(f:Strs w d nm):rG w d nm (blk true) (blk false) (L true) (L false):=by
 have e:∀c p,p<nm.length->∃a b,w.cell? ⟨blk c,p,none⟩=some (.slice a (L c p).length b)/\oL w a (L c p):=λc p i=>by
  obtain⟨a,b,j,_,k⟩:=nW (h.own c p) rfl;exact⟨a,b,by rw[(h.row c).cell i,j],k⟩
 exact⟨f,dP (h.row true),dP (h.row false),e true,e false⟩
theorem CZ(w:Pv)(x y:Ps):Calls prog 136 #[.string x,.string y] w λe w'=>e= .returned (.bool (Op.bytesLess x.toList y.toList))/\w'=w:=by
 cases b:Op.bytesLess x.toList y.toList
 all_goals
  go_enter func136,ntmps136
  go_wp2
  go_ret
  exact⟨rfl,rfl⟩
theorem zF(w:Pv)(x:Ps):Calls prog 137 #[.string x] w λe w'=>e= .returned (.bool false)/\w'=w:=by
 go_enter func137,ntmps137
 go_wp2
 go_ret
 exact⟨rfl,rfl⟩
def rX(l:List Ps)(s:Ps)(e:Ending):Prop:=∃(k:Nat) (b:Bool),e= .returned (.tuple #[.a (k:Int),.bool b])/\(b=true->k<l.length/\l.getD k ByteArray.empty=s)/\(b=false->s∉l)
theorem rX.mk{l:List Ps}{s:Ps}{e:Ending}(k:Nat)(b:Bool)(h:e= .returned (.tuple #[.a (k:Int),.bool b]))(c:b=true->k<l.length/\l.getD k ByteArray.empty=s)(h2:b=false->s∉l):rX l s e:=⟨k,b,h,c,h2⟩
theorem C_(w:Pv)(a:Pt)(cap:Nat)(l:List Ps)(s:Ps)(V:l.length<=1048576)(D:nD l)(E:Strs w a l):
  Calls prog 90 #[.slice a l.length cap,.string s] w λe w'=>rX l s e/\w'=w:=by
 have v:Hid (∀p q,p<q->q<l.length->aR (l.getD p ByteArray.empty) (l.getD q ByteArray.empty)):=λp q n c=>by
  have:=Ob.1 D p q A7 c n;simpa[List.getD,c,show p<l.length by omega] using this
 clear D;go_enter func90,ntmps90
 go_wp2
 go_loopw [7,8] (λx y wr=>∃i j:Nat,x= .a i/\y= .a j/\i<=j/\j<=l.length/\Hid (∀t,t<i->aR (l.getD t ByteArray.empty) s)/\Hid (∀t,j<=t->t<l.length->¬aR (l.getD t ByteArray.empty) s)/\wr=w) (λx y _=>(intOf y).toNat-(intOf x).toNat)
 case atStart=>exact⟨0,l.length,rfl,rfl,NS _,NQ _,Kz (λt F=>aT F),Kz (λt n c=>A7),rfl⟩
 case round=>
  obtain⟨i,j,rfl,rfl,W,Q,G,H,rfl⟩:=hrel;by_cases X:(i:Int)<j
  .obtain⟨h,I⟩:∃h:Nat,h= (i+j) / 2:=⟨_,rfl⟩;have J:h<l.length:=A7;have R:i<=h:=A7;have Y:h<j:=A7;obtain⟨b,o,rfl,S,r⟩:=E h J;obtain⟨d,f⟩:=ai (l.getD h ByteArray.empty);rw[<-f] at r;have k:=Kz f;clear f;have Z:((i:Int)+ (j:Int)) / 2= (h:Int):=A7;have HH:=Kz I;clear I;go_wp2_with fail
   refine (CZ _ d s).mono ?_;rintro e T ⟨rfl,rfl⟩;clear r;cases K:Op.bytesLess d.toList s.toList
   .go_wp2
    go_roundw
    case rel=>
     refine⟨i,h,rfl,C8,R,A7,G,Kz (λt n c L=>?_),trivial⟩;have M:¬aR (l.getD h ByteArray.empty) s:=λg=>by rw[<-k.o] at g;unfold aR at g;rw[K] at g;cases g
     rcases Nat.lt_or_ge h t with e|e
     .exact M (fe (v.o h t e c) L)
     .have:t=h:=A7;subst this;exact M L
    case measure=>simp[intOf];omega
   .go_wp2
    go_roundw
    case rel=>
     refine⟨h+1,j,C8,rfl,A7,Q,Kz (λt F=>?_),H,trivial⟩;have N:aR (l.getD h ByteArray.empty) s:=by rw[<-k.o];exact K
     rcases Nat.lt_or_ge t h with e|e
     .exact fe (v.o t h e J) N
     .have:t=h:=A7;subst this;exact N
    case measure=>simp[intOf];omega
  .have U:i=j:=A7;subst U;have O:Hid (s∈l->i<l.length/\l.getD i ByteArray.empty=s):=λm=>by
    obtain⟨q,z,e⟩:=Oc m;have A:l.getD q ByteArray.empty=s:=by simpa[List.getD,z] using e
    have n:¬q<i:=λg=>by have:=G.o q g;rw[A] at this;exact aQ _ this
    have c:q=i:=by
     rcases Nat.lt_or_ge i q with g|g
     .have P:=v.o i q g z;rw[A] at P;exact Pg P (H.o i (NQ _) A7)
     .omega
    subst c;exact⟨z,A⟩
   by_cases B:i<l.length
   .obtain⟨b,o,rfl,S,r⟩:=E i B;obtain⟨d,f⟩:=ai (l.getD i ByteArray.empty);rw[<-f] at r;have k:=Kz f;clear f;have a0:(i:Int)<(l.length:Int):=A7;cases C:(d.toList == s.toList)
    .go_wp2_with (first | (go_at_call 137;refine (zF _ _).mono ?_;rintro e T ⟨rfl,rfl⟩))
     go_ret2
     exact⟨rX.mk i false rfl (λh=>by cases h) (λ_ m=>by
      have c:=(O.o m).2;rw[<-k.o] at c;rw[c] at C;simp at C),rfl⟩
    .go_wp2
     go_ret2
     exact⟨rX.mk i true rfl (λ_=>⟨B,by rw[<-k.o];exact gT C⟩) (λh=>by cases h),rfl⟩
   .go_wp2
    go_ret2
    exact⟨rX.mk i false rfl (λh=>by cases h) (λ_ m=>B (O.o m).1),rfl⟩
structure gK (E:Ps->Ps->Prop) (nm:List Ps) (k:Nat) (S:List Ps) (j M:Nat) (need back:Nat->List Nat):Prop where
 fwd:∀p q,q∈need p↔(p<k/\bL E nm p q)\/(p=k/\∃hq:q<nm.length,nm[q]∈S.take j)
 bwd:∀p q,p∈back q↔(p<k/\bL E nm p q)\/(p=k/\∃hq:q<nm.length,nm[q]∈S.take j)
 asc:∀p,(need p).Pairwise (· <= ·)
 len:∀p,(need p).length<=M/\(back p).length<=M
structure yA (E:Ps->Ps->Prop) (nm:List Ps) (M:Nat) (need back:Nat->List Nat):Prop where
 fwd:∀p q,q∈need p↔bL E nm p q
 bwd:∀p q,p∈back q↔bL E nm p q
 asc:∀p,(need p).Pairwise (· <= ·)
 len:∀p,(need p).length<=M/\(back p).length<=M
section
variable {E : Ps -> Ps -> Prop} {nm S : List Ps} {k j M : Nat} {need back : Nat -> List Nat}
theorem gK.start(E:Ps->Ps->Prop)(nm S:List Ps):gK E nm 0 S 0 0 (λ_=>[]) (λ_=>[]):=
 ⟨λp q=>A9,λp q=>A9,λp=>List.Pairwise.nil,λp=>⟨NQ _,NQ _⟩⟩
theorem gK.enter(h:gK E nm k S 0 M need back)(b:List Ps):gK E nm k b 0 M need back:=
 ⟨λp q=>by rw[h.fwd];simp,λp q=>by rw[h.bwd];simp,h.asc,h.len⟩
theorem gK.leave(h:gK E nm k S j M need back)(f:k<nm.length)(i:S.length<=j)(c:∀y,y∈S↔E nm[k] y):gK E nm (k+1) [] 0 M need back:=by
 have d:∀p q,(p<k/\bL E nm p q)\/(p=k/\∃b:q<nm.length,nm[q]∈S.take j)↔(p<k+1/\bL E nm p q)\/(p=k+1/\∃b:q<nm.length,nm[q]∈([]:List Ps).take 0):=λp q=>by
  rw[Oy i];constructor
  .rintro (⟨l,a⟩|⟨rfl,b,a⟩)
   .exact .inl ⟨A7,a⟩
   .exact .inl ⟨A7,f,b,(c _).1 a⟩
  .rintro (⟨l,m,b,a⟩|⟨_,_,a⟩)
   .by_cases e:p=k
    .subst e;exact .inr ⟨rfl,b,(c _).2 a⟩
    .exact .inl ⟨A7,m,b,a⟩
   .simp at a
 exact⟨λp q=>(h.fwd p q).trans (d p q),λp q=>(h.bwd p q).trans (d p q),h.asc,h.len⟩
theorem gK.skip(h:gK E nm k S j M need back)(e:j<S.length)(f:S[j]∉nm):gK E nm k S (j+1) M need back:=by
 have d:∀q:Nat,(∃a:q<nm.length,nm[q]∈S.take j)↔∃a:q<nm.length,nm[q]∈S.take (j+1):=λq=>by
  rw[NY e];constructor
  .rintro⟨a,c⟩;exact⟨a,N_.2 (.inl c)⟩
  .rintro⟨a,c⟩;rcases N_.1 c with b|b
   .exact⟨a,b⟩
   .rw[NZ] at b;exact Pg (by rw[<-b];exact Oa a) f
 exact⟨λp q=>by rw[h.fwd,d],λp q=>by rw[h.bwd,d],h.asc,h.len⟩
theorem gK.put(m:ig E nm)(h:gK E nm k S j M need back)(n:j<S.length)(v:S.Pairwise λa b=>¬aR b a){q:Nat}(i:q<nm.length)(l:nm[q]=S[j])(C:k<nm.length)(D:∀y∈S,E nm[k] y):
  gK E nm k S (j+1) (M+1) (λp=>if p=k then need k++ [q] else need p) (λp=>if p=q then back q++ [k] else back p):=by
 have s:∀r:Nat,(∃f:r<nm.length,nm[r]∈S.take (j+1))↔(∃f:r<nm.length,nm[r]∈S.take j)\/r=q:=λr=>by
  rw[NY n];constructor
  .rintro⟨f,d⟩;rcases N_.1 d with c|c
   .exact .inl ⟨f,c⟩
   .rw[NZ,<-l] at c;exact .inr (m.inj f i c)
  .rintro (⟨f,d⟩|rfl)
   .exact⟨f,N_.2 (.inl d)⟩
   .exact⟨i,N_.2 (.inr (by rw[l];simp))⟩
 refine⟨λp r=>?_,λp r=>?_,λp=>?_,λp=>⟨?_, ?_⟩⟩
 .rw[s];by_cases e:p=k
  .subst e;simp only[if_true,N_,NZ,h.fwd];constructor
   .rintro ((⟨d,c⟩|⟨_,c⟩) | c)
    .exact .inl ⟨d,c⟩
    .exact .inr ⟨trivial,.inl c⟩
    .exact .inr ⟨trivial,.inr c⟩
   .rintro (⟨d,c⟩|⟨_,c|c⟩)
    .exact .inl (.inl ⟨d,c⟩)
    .exact .inl (.inr ⟨trivial,c⟩)
    .exact .inr c
  .show (r∈if p=k then need k++ [q] else need p)↔_;rw[Pf e,h.fwd];simp only[e,false_and,or_false]
 .rw[s];by_cases e:r=q
  .subst e;simp only[if_true,N_,NZ,h.bwd];constructor
   .rintro ((d|⟨d,c⟩) | d)
    .exact .inl d
    .exact .inr ⟨d,.inl c⟩
    .exact .inr ⟨d,.inr trivial⟩
   .rintro (d|⟨d,c|_⟩)
    .exact .inl (.inl d)
    .exact .inl (.inr ⟨d,c⟩)
    .exact .inr d
  .show (p∈if r=q then back q++ [k] else back r)↔_;rw[Pf e,h.bwd];simp only[e,or_false]
 .by_cases e:p=k
  .subst e;simp only[if_true];rw[Ou];refine⟨h.asc p,A9,λa w b t=>?_⟩;rw[NZ] at t;subst t;rcases (h.fwd p a).1 w with⟨d,_⟩ | ⟨_,x,c⟩
   .omega
   .obtain⟨z,F,A⟩:=List.mem_take_iff_getElem.1 c;have B:=Ob.1 v z j A7 n A7;rw[A,<-l,m.less i x] at B;omega
  .simp only[Pf e];exact h.asc p
 .by_cases e:p=k
  .simp only[e,if_true,OD,Pm];have:=(h.len k).1;omega
  .simp only[Pf e];have:=(h.len p).1;omega
 .by_cases e:p=q
  .simp only[e,if_true,OD,Pm];have:=(h.len q).2;omega
  .simp only[Pf e];have:=(h.len p).2;omega
theorem gK.whole(h:gK E nm nm.length [] 0 M need back):yA E nm M need back:=by
 have e:∀p q,(p<nm.length/\bL E nm p q)\/(p=nm.length/\∃hq:q<nm.length,nm[q]∈([]:List Ps).take 0)↔bL E nm p q:=λp q=>by
  constructor
  .rintro (⟨_,c⟩|⟨_,_,c⟩)
   .exact c
   .simp at c
  .intro c;exact .inl ⟨c.1,c⟩
 exact⟨λp q=>(h.fwd p q).trans (e p q),λp q=>(h.bwd p q).trans (e p q),h.asc,h.len⟩
end
section
variable {R : Nat -> Nat -> Prop} {t : Nat}
structure qZ (R:Nat->Nat->Prop) (t n:Nat) (l:List Nat) (a q:Nat):Prop where
 len:l.length+q=n+1
 pos:1<=q
 more:2<=q->∃y,R a y/\Far R t (q-1) y
 last:∃l0,l=l0++ [a]
 rest:∀r,ma R t q a r->ma R t n t (l.dropLast++r)
theorem qZ.start{n:Nat}(h:jU R t n):qZ R t n [t] t n:=by
 refine⟨D6,h.1,λe=>?_,⟨[],rfl⟩,λr b=>b⟩;obtain⟨m,rfl⟩:∃m,n=m+1:=⟨n-1,A7⟩;obtain⟨y,a,c⟩:=h.2.1.first
 refine⟨y,a,c,λi f d=>h.2.2 (i+1) A7 A7 (.step a d)⟩
theorem qZ.next{n q a x:Nat}{l:List Nat}(h:qZ R t n l a (q+1))(e:1<=q)(b:Bt (λy=>R a y/\Far R t q y) x):qZ R t n (l++ [x]) x q:=by
 obtain⟨i,c⟩:=h.last;refine⟨by have:=h.len;rw[OD];simp;omega,e,λj=>?_,⟨l,rfl⟩,λr f=>?_⟩
 .obtain⟨m,rfl⟩:∃m,q=m+1:=⟨q-1,A7⟩;exact b.1.2.next
 .have d:=h.rest (a :: r) (ma.step b f);rw[List.dropLast_concat];rw[c,List.dropLast_concat] at d;rw[c,List.append_assoc];exact d
theorem qZ.done{n a:Nat}{l:List Nat}(h:qZ R t n l a 1):ma R t n t l:=by
 obtain⟨e,c⟩:=h.last;have d:=h.rest [a] (ma.stop a);rw[c,List.dropLast_concat] at d;rw[c];exact d
theorem BK{p:Nat->Prop}{l:List Nat}(e:l.Pairwise (· <= ·))(f:∀y,p y->y∈l){k:Nat}(h:k<l.length)(i:p l[k])(m:∀j (b:j<l.length),j<k->¬p l[j]):Bt p l[k]:=by
 refine⟨i,λy d=>?_⟩;obtain⟨j,b,rfl⟩:=Oc (f y d);rcases Pd j k with c | rfl | c
 .exact Pg d (m j b c)
 .exact NQ _
 .exact Ob.1 e k j h b c
end
theorem ym{l:List Nat}{p q:Nat->Bool}(h:∀x,q x=true->p x=true){s:Nat}(b:s∈l)(c:p s=true)(h2:q s=false):l.countP q+1<=l.countP p:=by
 induction l with
 | nil=>cases b
 | cons a l ih=>
  rw[List.countP_cons,List.countP_cons];rcases OL.1 b with rfl|b
  .have:=List.countP_mono_left (l:=l) (p:=q) (q:=p) (λx _=>h x);simp only[c,h2,if_true];simp;omega
  .have f:=ih b;have d:=h a;cases e:q a
   .simp;omega
   .simp[d e];omega
def unseen(A:Nat->Nat):Nat:=(List.range 60).countP (λp=>A p == 0)
theorem wU{A:Nat->Nat}{s v:Nat}(c:s<60)(d:A s=0)(b:v≠0):unseen (λr=>if r=s then v else A r)+1<=unseen A:=by
 refine ym (s:=s) (λx a=>?_) (List.mem_range.2 c) (by simp[d]) (by simp[b]);by_cases e:x=s
 .rw[e] at a;simp[b] at a
 .simpa[e] using a
theorem wX{Q:List Nat}{s:Nat}(c:Q.Nodup)(d:∀p∈Q,p<60)(e:s<60)(f:s∉Q):Q.length<60:=by
 have h:(s :: Q).Nodup:=List.nodup_cons.2 ⟨f,c⟩;have:=List.Nodup.length_le_of_subset (l₂:=List.range 60) h (λx b=>by
  rcases OL.1 b with rfl|b
  .exact List.mem_range.2 e
  .exact List.mem_range.2 (d x b))
 simp at this;omega
def jh(w:Pv)(ab:Nat)(A:Nat->Nat):Prop:=w.rowIs ab 157 60 (λi=>iP (A i))
variable {w : Pv}
theorem jh.put{a:Nat}{A:Nat->Nat}(h:jh w a A)(i v:Nat):jh (w.setCell ⟨a,i,none⟩ (.a (v:Int))) a (λr=>if r=i then v else A r):=
 nX h i _ (λp _=>by by_cases e:p=i <;> simp[e,iP])
theorem ib.size{a:Nat}{Q:List Nat}(h:ib w a Q):w.cell? ⟨a,61,none⟩=some (.a (Q.length:Int)):=by
 obtain⟨V,f,_,_,d,_⟩:=h.ex;rw[d.cell A7]
 rfl
def ow(A:Nat->Nat):Array Pw:=((List.range 60).map λi=>iP (A i)).toArray
structure JK (R:Nat->Nat->Prop) (t:Nat) (A:Nat->Nat) (size:Nat):Prop where
 no:size=0->∀n,¬jU R t n
 yes:size≠0->jU R t size/\∀r n,n+1<=size->(A r=n+1↔Far R t n r)
def LY(R:Nat->Nat->Prop)(t:Nat)(w w':Pv)(e:Ending):Prop:=∃(A:Nat->Nat) (size:Nat),e= .returned (.tuple #[.agg (ow A),.a (size:Int)])/\JK R t A size/\size<=60/\K_ w w'
theorem Am{c:Nat}{A:Nat->Nat}(h:jh w c A):w.rangeAt c 0 ((List.range 60).map λi=>iP (A i)):=λj v a=>by
 rw[List.getElem?_map] at a;by_cases b:j<60
 .rw[List.getElem?_range b] at a;simp only[Option.map_some,OE] at a;rw[Ow,<-a];exact h.cell b
 .rw[List.getElem?_eq_none (by simpa using b)] at a;cases a
theorem Tryz.qF :(prog.info? 157).map (·.size)=some 60:=C9
theorem tH{P:Program}{fn:Func}{R:Ending->Pv->Prop}{a:Act}{p q:Tmp}{c:TypeId}{b:Nat}(cs:List Pw)(d:TypeDesc)(v:Pw)(h:fn.results= #[.cell p c,.tmp q])
 (e:a.tmps.getD p undef= .c b) (f:w.rangeAt b 0 cs) (i:P.underlying c=some d) (j:d.isRow=true) (hi:(P.info? c).map (·.size)=some cs.length)
 (k:a.tmps.getD q undef=v) (l:a.defers=[]) (m:R (.returned (.tuple #[.agg cs.toArray,v])) w):bodyPost P fn R .ret a w:=by
 refine bodyPost_ret ?_ l m;have n:a.tmps[p]?.getD undef= .c b:=by simpa using e
 have r:a.tmps[q]?.getD undef=v:=by simpa using k
 simp only[results,h];simp[n,r,asAddr,run_loadVar_mid w b 0 c cs d f i j hi]
theorem fT(A:Nat->Nat):(ow A).size=60:=by simp[ow]
theorem qM(A:Nat->Nat):(ow A).all (·.oneCell')=true:=by simp[ow,iP,Value.oneCell']
theorem z60 :List.toArray (List.replicate 60 (Value.int .i64 0))=Array.replicate 60 (Value.int .i64 0):=rfl
theorem z62 :List.toArray (List.replicate 62 (Value.int .i64 0))=Array.replicate 62 (Value.int .i64 0):=rfl
theorem rD(w:Pv)(R:Pt)(nc:Nat)(nm:List Ps)(T mb:Nat)(need back:Nat->List Nat)(E:Ps->Ps->Prop)(M:Nat)(t:Nat)(ht:t<nm.length)(hn:nm.length<=60)(hM:M<=60000000)(hV:rG w R nm T mb need back)(hR:yA E nm M need back):
  Calls prog 91 #[.agg #[.slice R nm.length nc,.b T nm.length nm.length,.b mb nm.length nm.length],.a (t:Int)] w λe w'=>LY (bL E nm) t w w' e:=by
 go_enter func91,ntmps91
 go_upto_region 1 with fail
 rw (transparency:= .default) [z60]
 go_step3
 go_upto_region 4 with fail
 rw (transparency:= .default) [z60,z62];obtain⟨d,I⟩:=ai (w.alloc (.cells #[.slice R nm.length nc,.b T nm.length nm.length,.b mb nm.length nm.length] 93));have k1:K_ w d:=by rw[I];exact ah _ _
 have s2:d.cell? ⟨w.heap.size,2,none⟩=some (.b mb nm.length nm.length):=by rw[I];exact Xz w #[.slice R nm.length nc,.b T nm.length nm.length,.b mb nm.length nm.length] 93 2 _ rfl
 have z1:w.heap.size<d.heap.size:=by rw[I];simp
 have c1:w.heap.size+1=d.heap.size:=by rw[I];simp
 obtain⟨c,K⟩:=ai (d.alloc (.cells (Array.replicate 60 (.a 0)) 157));have k2:K_ d c:=by rw[K];exact ah _ _
 have a3:Hid (aB c d.heap.size 157 60):=by have h:=aB.made d (Array.replicate 60 (.a 0)) 157;rw[Array.size_replicate] at h;rw[K];exact h
 have e7:d.heap.size+1=c.heap.size:=by rw[K];simp
 obtain⟨y,L⟩:=ai (c.alloc (.cells (Array.replicate 60 (.a 0)) 157));have k3:K_ c y:=by rw[L];exact ah _ _
 have a4:jh y c.heap.size (λ_=>0):=by
  have h:=World.rowIs_alloc c (Array.replicate 60 (.a 0)) 157 (λ_=>iP 0) (λi z=>by simp at z;simp[iP,z]);rw[Array.size_replicate] at h;rw[L];exact h
 have e8:c.heap.size+1=y.heap.size:=by rw[L];simp
 obtain⟨B,U⟩:=ai (y.alloc (.cells (Array.replicate 62 (.a 0)) 197));have k4:K_ y B:=by rw[U];exact ah _ _
 have r4:ib B y.heap.size []:=by
  refine⟨λ_=>0,0,A7,A9, ?_,λi z=>aT z⟩;have h:=World.rowIs_alloc y (Array.replicate 62 (.a 0)) 197 (lU (λ_=>0) 0 0) (λi z=>by simp at z;simp[lU,z]);rw[Array.size_replicate] at h;rw[U];exact h
 rw[<-I,<-K,<-L,<-U];obtain⟨a,c2⟩:=ai c.heap.size;obtain⟨f,c3⟩:=ai y.heap.size;have V:w.heap.size+1=d.heap.size:=c1;have e2:w.heap.size+1+1=a:=A7;have e3:w.heap.size+1+1+1=f:=A7;rw[e3,e2,V];rw[<-c2] at a4;rw[<-c3] at r4;have N:a≠f:=A7;have W:=Kz (jG a4 k4);have e9:=W.out.frozen t;have f0:=W.out.cell (show t<60 by omega);have h6:(t:Int)<60:=A7;have K4:=k3.trans k4;have c4:=Kz r4;have X:=Kz (jh.put W.out t 1);have a5:Hid (But (λb=>b=a\/b=f) B (B.setCell ⟨a,t,none⟩ (.a (1:Int)))):=But.set (S:=λb=>b=a\/b=f) (But.au (K_.refl B)) (p:=⟨a,t,none⟩) (.inl rfl) _;have Y:=Kz (k1.trans k2);have f1:=Kz k2;have a6:=Kz (c4.o.block (w':=B.setCell ⟨a,t,none⟩ (.a (1:Int))) (Below.heap_setCell _ _ _ _ (λe=>N (Eq.symm e))));have c5:Hid (c.heap.size<=a):=by show c.heap.size<=a;omega
 have Z:Hid (c.heap.size<=f):=by show c.heap.size<=f;omega
 have HZ:Hid (w.heap.size<c.heap.size/\d.heap.size<c.heap.size/\w.heap.size<d.heap.size):=⟨A7,A7,A7⟩;have f2:=Kz ((f1.o.cell z1).trans s2);obtain⟨b4,a7⟩:=ai d.heap.size;rw[<-a7] at a3 HZ⊢;have h7:=Kz a7;clear I K L U V e2 e3 a4 r4 k3 k4 k1 k2 e8 e7 c1 c2 c3 z1 s2 a7;go_upto_region 5 with fail
 have a8:Hid (K_ c (B.setCell ⟨a,t,none⟩ (.a (1:Int)))):=a5.o.kept K4 (λb e=>by rcases e with e | e <;> rw[e] <;> first | exact c5.o | exact Z.o);generalize f3:B.setCell ⟨a,t,none⟩ (.a (1:Int))=W5 at X a5 a6 a8⊢;clear f3 e9 f0 a5 c4 W K4;go_wp2_with fail
 refine (wH W5 f [] t a6.o A9).mono ?_;rintro e w6 ⟨rfl,c6,a9⟩;have c7:Hid (ib w6 f [t]):=c6;have c8:Hid (jh w6 a (λr=>if r=t then 1 else (λ_=>0) r)):=dL X.o (a9.block _ (dP X.o) (λe=>N e));have c9:Hid (K_ c w6):=a9.kept a8.o (λb e=>by rw[e];exact Z.o);have d0:Hid (Bfs (bL E nm) t (λr=>if r=t then 1 else (λ_=>0) r) [t]):=Bfs.start _ t;have d1:Hid (∀r,(λr=>if r=t then 1 else (λ_=>0) r) r+unseen (λr=>if r=t then 1 else (λ_=>0) r)<=60):=λr=>by
  have h1:=wU (A:=λ_=>0) (v:=1) (show t<60 by omega) rfl A7;have h2:unseen (λ_=>0)<=60:=by unfold unseen;have:=List.countP_le_length (l:=List.range 60) (p:=λ_=>(0:Nat) == 0);simp
  by_cases e:r=t
  .simp only[e,if_true];omega
  .simp only[Pf e];omega
 clear c6 a9 X a6 a8;go_wp2_with fail
 go_step3
 go_wp2
 go_loopg [8] (2*unseen (λr=>if r=t then 1 else (λ_=>0) r)+1) (λgg x8 wr=>∃(A:Nat->Nat) (Q:List Nat),x8= .a 0/\Hid (2*unseen A+Q.length=gg)/\Hid (∀r,A r+unseen A<=60)/\Hid (jh wr a A)/\Hid (ib wr f Q)/\Hid (Bfs (bL E nm) t A Q)/\Hid (∀p∈Q,p<nm.length)/\Hid (K_ c wr))
 case atStart=>exact⟨_,[t],rfl,Kz rfl,d1,c8,c7,d0,Kz (λp hp=>by rw[NZ] at hp;rw[hp];exact ht),c9⟩
 case round=>
  clear c8 c7 d0 c9 d1;obtain⟨A,Q,rfl,J,x,j,G,HB,C,k⟩:=hrel;have b0:=G.o.size;cases Q with
  | nil=>
   have h8:J4 wr f 61 (.a 0):=b0;clear b0;have HD:Hid (JK (bL E nm) t A 0):=⟨λ_ f4 D=>HB.o.none f4 D.1 D.2.1,λh=>Pg rfl h⟩;go_upto_region 17 with fail
   have b1:=a3.o.kept k.o;have O:=Kz (b1.row.there (o:=0) (m:=60) (NQ _));have b2:=Kz (Am j.o);go_wp2_with (first | (refine wpList_load_mid rfl 157 (.tmp 6) rfl a 0 rfl _ _ b2.o underlying157 rfl Tryz.qF ?_) | (refine wpList_store_mid rfl 157 (.tmp 4) (.tmp 49) rfl b4 0 (ow A) rfl rfl (by rw[fT];exact O.o) (by rw[fT];exact Tryz.qF) (qM A) ?_))
   try rw[Exit.noGoto_ret]
   refine tH ((List.range 60).map λi=>iP (A i)) _ (.a ((0:Nat):Int)) results91 rfl (NU wr b4 0 ((List.range 60).map λi=>iP (A i)) (by rw[OY,List.length_range];exact O.o)) underlying157 rfl (by rw[OY,List.length_range];exact Tryz.qF) rfl rfl ⟨A,0,rfl,HD.o,A7, ?_⟩;exact K_.setCells (Nat.le_of_lt HZ.o.2.2) _ _ (Y.o.trans k.o)
  | cons p Q=>
   have f5:(0:Int)<((p :: Q).length:Int):=A9;have f6:p<nm.length:=C.o p A9;obtain⟨ba,bc,d2,d3⟩:=hV.bwd p f6;go_wp2_with fail
   refine (yg wr f Q p G.o).mono ?_;rintro e w1 ⟨rfl,d4,b3⟩;have d5:=Kz d4;have d6:Hid (jh w1 a A):=dL j.o (b3.block _ (dP j.o) (λe=>N e));have a0:Hid (K_ c w1):=b3.kept k.o (λb e=>by rw[e];exact Z.o);have n:=Kz HB.o.take;have d7:Hid (∀q∈Q,q<nm.length):=λq P=>C.o q (Oi _ P)
   have d8:Hid (2*unseen A+Q.length<gk):=by have h:=J.o;rw[OH] at h;show 2*unseen A+Q.length<gk;omega
   have f7:=Kz d3;have q2:=(a0.o.cell HZ.o.1).trans f2.o;have q3:=((Y.o.trans a0.o).cell hV.mbl).trans d2;have h9:(p:Int)<(nm.length:Int):=A7;have i0:=(hR.len p).2;clear d4 b3 d3 d2 b0 f5 j G HB C k J;go_wp2_with fail
   clear q2 q3;go_loopw [8,26] (λx8 b5 wr=>∃(i:Nat) (A:Nat->Nat) (Q:List Nat),x8= .a 0/\b5= .a (i:Int)/\i<=(back p).length/\Hid (2*unseen A+Q.length<gk)/\Hid (∀r,A r+unseen A<=60)/\Hid (jh wr a A)/\Hid (ib wr f Q)/\Hid (oF (bL E nm) t p ((back p).take i) A Q)/\Hid (∀q∈Q,q<nm.length)/\Hid (K_ c wr)) (λ_ b5 _=>(back p).length-(intOf b5).toNat)
   case atStart=>exact⟨0,A,Q,rfl,rfl,NS _,d8,x,d6,d5,n,d7,a0⟩
   case round=>
    clear d8 x d6 d5 n d7 a0;obtain⟨i,A,Q,rfl,rfl,z,J,x,j,G,n,C,k⟩:=hrel;by_cases a1:i<(back p).length;rotate_left
    .have f8:Hid (Bfs (bL E nm) t A Q):=n.o.ends (λs D=>by rw[Oy A7];exact (hR.bwd s p).2 D);go_wp2
     go_roundg (2*unseen A+Q.length)
     case measure=>exact J.o
     case rel=>exact⟨A,Q,rfl,Kz rfl,x,j,G,f8,C,k⟩
    obtain⟨sb,so,V,i1,f9⟩:=(f7.o.kept (Y.o.trans k.o)) i a1;subst V;obtain⟨s,D⟩:=ai ((back p).getD i 0);rw[<-D] at f9;have b6:(back p)[i]=s:=by rw[D];simp[List.getD,a1]
    have HE:Hid (bL E nm s p):=(hR.bwd s p).1 (by rw[<-b6];exact Oa a1);have g0:s<nm.length:=HE.o.1;have d9:Hid ((back p).take (i+1)= (back p).take i++ [s]):=by show _=_;rw[NY a1,b6]
    have i2:(i:Int)<((back p).length:Int):=A7;have cp:=j.o.cell (show p<60 by omega);have cs:=j.o.cell (show s<60 by omega);unfold iP at cp cs;have i3:(p:Int)<60:=A7;have i4:(s:Int)<60:=A7;clear D b6;by_cases F:s=t
    .have g1:((s:Int) == (t:Int))=true:=by simp[F]
     have b7:=Kz (n.o.found (by have h:=HE.o;rw[F] at h;exact h));have e0:=Kz n.o.pos;have HD:Hid (JK (bL E nm) t A (A p)):=⟨λh=>Pg h e0.o,λ_=>⟨⟨by have:=e0.o;omega,b7.o.1,b7.o.2.1⟩,b7.o.2.2⟩⟩;have e1:A p<=60:=by have:=x.o p;omega
     clear F cs;go_upto_region 17 with fail
     have b1:=a3.o.kept k.o;have O:=Kz (b1.row.there (o:=0) (m:=60) (NQ _));have b2:=Kz (Am j.o);go_wp2_with (first | (refine wpList_load_mid rfl 157 (.tmp 6) rfl a 0 rfl _ _ b2.o underlying157 rfl Tryz.qF ?_) | (refine wpList_store_mid rfl 157 (.tmp 4) (.tmp 49) rfl b4 0 (ow A) rfl rfl (by rw[fT];exact O.o) (by rw[fT];exact Tryz.qF) (qM A) ?_))
     try rw[Exit.noGoto_ret]
     refine tH ((List.range 60).map λi=>iP (A i)) _ (.a ((A p:Nat):Int)) results91 rfl (NU wr b4 0 ((List.range 60).map λi=>iP (A i)) (by rw[OY,List.length_range];exact O.o)) underlying157 rfl (by rw[OY,List.length_range];exact Tryz.qF) rfl rfl ⟨A,A p,rfl,HD.o,e1, ?_⟩;exact K_.setCells (Nat.le_of_lt HZ.o.2.2) _ _ (Y.o.trans k.o)
    have g1:((s:Int) == (t:Int))=false:=D6;by_cases H:A s=0;rotate_left
    .have g2:((A s:Int) == 0)=false:=D6;have g3:=Kz (n.o.old H F);clear H F cp;go_wp2
     go_roundw
     case rel=>exact⟨i+1,A,Q,rfl,C8,A7,J,x,j,G,Kz (by rw[d9.o];exact g3.o),C,k⟩
     case measure=>simp[intOf];omega
    have g2:((A s:Int) == 0)=true:=by simp[H]
    have g4:=Kz (n.o.new HE.o H F);have g5:Q.length<60:=wX n.o.nd (λq P=>NR (C.o q P) hn) A7 (λh=>n.o.q s h H);have e4:=Kz (wU (v:=A p+1) (show s<60 by omega) H A7);have e1:A p<=60:=by have:=x.o p;omega
    have fs:=j.o.frozen s;have a2:=Kz (jh.put j.o s (A p+1));have e5:((A p:Int)+1)= ((A p+1:Nat):Int):=A7;have b8:Hid (K_ c (wr.setCell ⟨a,s,none⟩ (.a ((A p+1:Nat):Int)))):=(But.set (S:=λb=>b=a) (But.au (K_.refl wr)) (p:=⟨a,s,none⟩) rfl _).kept k.o (λb e=>by rw[e];exact c5.o);have b9:=Kz (G.o.block (w':=wr.setCell ⟨a,s,none⟩ (.a ((A p+1:Nat):Int))) (Below.heap_setCell _ _ _ _ (λe=>N (Eq.symm e))));have i5:Hid (s≠t):=F;have g6:=Kz e5;clear F H e5;go_upto_region 15 with fail
    rw[g6.o];generalize g7:wr.setCell ⟨a,s,none⟩ (.a ((A p+1:Nat):Int))=w7 at a2 b8 b9⊢;clear g7 fs cp cs;go_wp2_with fail
    refine (wH w7 f Q s b9.o g5).mono ?_;rintro e w8 ⟨rfl,e6,c0⟩;have g8:=Kz e6;have g9:Hid (jh w8 a (λr=>if r=s then A p+1 else A r)):=dL a2.o (c0.block _ (dP a2.o) (λe=>N e));have h0:Hid (K_ c w8):=c0.kept b8.o (λb e=>by rw[e];exact Z.o);have h3:Hid (2*unseen (λr=>if r=s then A p+1 else A r)+ (Q++ [s]).length<gk):=by
     have h1:=e4.o;have h2:=J.o;rw[OD];simp only[OH,List.length_nil];show _<_;omega
    have h4:Hid (∀r,(λr=>if r=s then A p+1 else A r) r+unseen (λr=>if r=s then A p+1 else A r)<=60):=λr=>by
     have h1:=e4.o;have h2:=x.o r;have i6:=x.o p;by_cases e:r=s
     .simp only[e,if_true];omega
     .simp only[Pf e];omega
    have h5:Hid (∀q∈Q++ [s],q<nm.length):=λq P=>by
     rcases N_.1 P with h|h
     .exact C.o q h
     .rw[NZ] at h;rw[h];exact g0
    clear e6 c0 a2 b8 b9;go_wp2
    go_roundw
    case rel=>exact⟨i+1,_,_,rfl,C8,A7,h3,h4,g9,g8,Kz (by rw[d9.o];exact g4.o),h5,h0⟩
    case measure=>simp[intOf];omega
def ko(S:Nat->Bool):Nat:=(List.range 60).countP (λp=>!S p)
theorem Cq{S:Nat->Bool}{s:Nat}(c:s<60)(d:S s=false):ko (λr=>if r=s then true else S r)+1<=ko S:=by
 refine ym (s:=s) (λx a=>?_) (List.mem_range.2 c) (by simp[d]) A9;by_cases e:x=s
 .rw[e] at a;simp at a
 .simpa[e] using a
def il(w:Pv)(sb:Nat)(S:Nat->Bool):Prop:=w.rowIs sb 200 60 (λi=>.bool (S i))
theorem il.put{a:Nat}{S:Nat->Bool}(h:il w a S)(i:Nat):il (w.setCell ⟨a,i,none⟩ (.bool true)) a (λr=>if r=i then true else S r):=
 nX h i _ (λp _=>by by_cases e:p=i <;> simp[e])
theorem il.ext{a:Nat}{S T:Nat->Bool}(h:il w a S)(e:∀p,T p=S p):il w a T:=Av h (λp _=>by rw[e p])
theorem zb60 :List.toArray (List.replicate 60 (Value.bool false))=Array.replicate 60 (Value.bool false):=rfl
theorem Tryz.Ep :(prog.info? 3).map (λi=>(i.zero,i.size,i.bytes))=some (some (.a 0),1,8):=C9
def NG(wr:Pv)(rb p:Nat)(Q:List Nat)(bx mb n:Nat)(ba:Pt)(bl bc:Nat)(a b:Act)(u:Pv):Prop:=
 b= {a with tmps:=((((((a.tmps.setIfInBounds 27 (.pointer (some ⟨bx,2,none⟩))).setIfInBounds 28 (.b mb n n)).setIfInBounds 29 (.a (p:Int))).setIfInBounds 30 (.pointer (some ⟨mb,p,none⟩))).setIfInBounds 31 (.slice ba bl bc)).setIfInBounds 32 (.a (bl:Int))).setIfInBounds 33 (.a 0)}/\ib u rb Q/\But (λb=>b=rb) wr u
def LG(R:Nat->Nat->Prop)(n:Nat)(ps:List Nat)(w w':Pv)(e:Ending):Prop:=∃(av:Pt) (cv:Nat) (l:List Nat),e= .returned (.slice av l.length cv)/\oL w' av l/\l.length<=60/\l.Pairwise (· < ·)/\(∀p,p∈l↔p<n/\og R ps p)/\K_ w w'
theorem zu(w:Pv)(C:Pt)(O:Nat)(nm:List Ps)(V mb:Nat)(need back:Nat->List Nat)(E:Ps->Ps->Prop)(M:Nat)(pa:Pt)(pc:Nat)(ps:List Nat)(b2:∀p∈ps,p<nm.length)(d6:ps.Nodup)(hn:nm.length<=60)(hM:M<=60000000)(hV:rG w C nm V mb need back)(hR:yA E nm M need back)(hP:oL w pa ps):
  Calls prog 92 #[.agg #[.slice C nm.length O,.b V nm.length nm.length,.b mb nm.length nm.length],.slice pa ps.length pc] w λe w'=>LG (bL E nm) nm.length ps w w' e:=by
 have j8:ps.length<=60:=by
  have:=List.Nodup.length_le_of_subset (l₂:=List.range 60) d6 (λW hx=>List.mem_range.2 (NR (b2 W hx) hn));simpa using this
 go_enter func92,ntmps92
 go_upto_region 3 with fail
 rw (transparency:= .default) [zb60,z62];obtain⟨a,D⟩:=ai (w.alloc (.cells #[.slice C nm.length O,.b V nm.length nm.length,.b mb nm.length nm.length] 93));have k1:K_ w a:=by rw[D];exact ah _ _
 have s0:a.cell? ⟨w.heap.size,0,none⟩=some (.slice C nm.length O):=by rw[D];exact Xz w #[.slice C nm.length O,.b V nm.length nm.length,.b mb nm.length nm.length] 93 0 _ rfl
 have s2:a.cell? ⟨w.heap.size,2,none⟩=some (.b mb nm.length nm.length):=by rw[D];exact Xz w #[.slice C nm.length O,.b V nm.length nm.length,.b mb nm.length nm.length] 93 2 _ rfl
 have z1:w.heap.size<a.heap.size:=by rw[D];simp
 have g4:w.heap.size+1=a.heap.size:=by rw[D];simp
 obtain⟨x,X⟩:=ai (a.alloc (.cells (Array.replicate 60 (.bool false)) 200));have k2:K_ a x:=by rw[X];exact ah _ _
 have b3:il x a.heap.size (λ_=>false):=by
  have h:=World.rowIs_alloc a (Array.replicate 60 (.bool false)) 200 (λ_=>.bool false) (λi r=>by simp at r;simp[r]);rw[Array.size_replicate] at h;rw[X];exact h
 have g5:a.heap.size+1=x.heap.size:=by rw[X];simp
 obtain⟨W3,a6⟩:=ai (x.alloc (.cells (Array.replicate 62 (.a 0)) 197));have k3:K_ x W3:=by rw[a6];exact ah _ _
 have r3:ib W3 x.heap.size []:=by
  refine⟨λ_=>0,0,A7,A9, ?_,λi r=>aT r⟩;have h:=World.rowIs_alloc x (Array.replicate 62 (.a 0)) 197 (lU (λ_=>0) 0 0) (λi r=>by simp at r;simp[lU,r]);rw[Array.size_replicate] at h;rw[a6];exact h
 rw[<-D,<-X,<-a6];obtain⟨c,d7⟩:=ai a.heap.size;obtain⟨f,d8⟩:=ai x.heap.size;have d9:w.heap.size+1=c:=A7;have e0:w.heap.size+1+1=f:=A7;rw[e0,d9];rw[<-d7] at b3;rw[<-d8] at r3;have Y:c≠f:=A7;have e2:Hid (a.heap.size<=c):=by show a.heap.size<=c;omega
 have a7:Hid (a.heap.size<=f):=by show a.heap.size<=f;omega
 have e3:Hid (il W3 c (λp=>decide (p∈ps.take 0))):=(il.ext (jG b3 k3) (λp=>A9));have e4:Hid (ib W3 f (ps.take 0)):=r3;have e5:=Kz (k2.trans k3);have a8:=Kz k1;have b4:Hid (∀u,K_ a u->J4 u w.heap.size 0 (.slice C nm.length O)/\J4 u w.heap.size 2 (.b mb nm.length nm.length)):=λu a9=>⟨(a9.cell z1).trans s0,(a9.cell z1).trans s2⟩
 clear D X a6 d9 e0 b3 r3 k1 k2 k3 g4 g5 d7 d8 s0 s2 z1;go_wp2
 go_loopw [15] (λW wr=>∃i:Nat,i<=ps.length/\W= .a (i:Int)/\Hid (il wr c (λp=>decide (p∈ps.take i)))/\Hid (ib wr f (ps.take i))/\Hid (K_ a wr)) (λW _=>ps.length-(intOf W).toNat)
 case atStart=>exact⟨0,NS _,rfl,e3,e4,e5⟩
 case round=>
  clear e3 e4 e5;obtain⟨i,r,rfl,k,q,l⟩:=hrel;by_cases F:i<ps.length
  .obtain⟨pb,po,e1,j9,g6⟩:=(hP.kept (a8.o.trans l.o)) i F;subst e1;obtain⟨p,hp⟩:=ai (ps.getD i 0);rw[<-hp] at g6;have b5:ps[i]=p:=by rw[hp];simp[List.getD,F]
   have e6:p<nm.length:=b2 p (by rw[<-b5];exact Oa F);have Z:Hid (ps.take (i+1)=ps.take i++ [p]):=by show _=_;rw[NY F,b5]
   have g7:(i:Int)<(ps.length:Int):=A7;have k0:(p:Int)<60:=A7;have cp:=k.o.cell (show p<60 by omega);have fp:=k.o.frozen p;have t:=Kz (il.put k.o p);have G:Hid (K_ a (wr.setCell ⟨c,p,none⟩ (.bool true))):=(But.set (S:=λb=>b=c) (But.au (K_.refl wr)) (p:=⟨c,p,none⟩) rfl _).kept l.o (λb e=>by rw[e];exact e2.o);have H:=Kz (q.o.block (w':=wr.setCell ⟨c,p,none⟩ (.bool true)) (Below.heap_setCell _ _ _ _ (λe=>Y (Eq.symm e))));have g8:(ps.take i).length<60:=E9;clear hp b5;go_upto_region 7 with fail
   generalize b6:wr.setCell ⟨c,p,none⟩ (.bool true)=w7 at t G H⊢;clear b6 cp fp;go_wp2_with fail
   refine (wH w7 f (ps.take i) p H.o g8).mono ?_;rintro e P ⟨rfl,a0,I⟩;have b7:Hid (ib P f (ps.take (i+1))):=by rw[Z.o];exact a0
   have b8:Hid (il P c (λm=>decide (m∈ps.take (i+1)))):=by
    refine il.ext (dL t.o (I.block _ (dP t.o) (λe=>Y e))) (λm=>?_);rw[Z.o];by_cases e:m=p
    .simp[e]
    .simp[e]
   have b9:Hid (K_ a P):=I.kept G.o (λb e=>by rw[e];exact a7.o);clear a0 I t G H;go_wp2
   go_roundw
   case rel=>exact⟨i+1,A7,C8,b8,b7,b9⟩
   case measure=>simp[intOf];omega
  have c0:i=ps.length:=A7;have e7:Hid (wW (bL E nm) ps (λp=>decide (p∈ps)) ps):=wW.start _ d6;have e8:Hid (il wr c (λp=>decide (p∈ps))):=by have h:=k.o;rw[c0,Ox] at h;exact h
  have J:Hid (ib wr f ps):=by have h:=q.o;rw[c0,Ox] at h;exact h
  have g9:¬((i:Int)<(ps.length:Int)):=A7;clear k q c0 F;go_wp2_with fail
  clear g9;go_loopg [10] (2*ko (λp=>decide (p∈ps))+ps.length) (λgg e9 wr=>∃(S:Nat->Bool) (Q:List Nat),Hid (2*ko S+Q.length=gg)/\Hid (il wr c S)/\Hid (ib wr f Q)/\Hid (wW (bL E nm) ps S Q)/\Hid (∀p∈Q,p<nm.length)/\Hid (K_ a wr)/\e9=e9)
  case atStart=>exact⟨_,ps,Kz rfl,e8,J,e7,Kz b2,l,rfl⟩
  case round=>
   clear e8 J e7 l;obtain⟨S,Q,R,k,q,HB,y,l,_⟩:=hrel;have c1:=q.o.size;cases Q with
   | nil=>
    have f0:J4 wr f 61 (.a 0):=c1;clear c1;obtain⟨q0,q2⟩:=b4.o _ l.o;have f1:=k;have f2:=Kz (a8.o.trans l.o);obtain⟨b0,f3⟩:=ai wr;rw[<-f3] at f1 f2 q0 q2 f0⊢;clear f3;have h0:Hid (∀p,S p=true↔og (bL E nm) ps p):=HB.o.whole;go_wp2_with fail
    clear q0 q2 f0;go_loopw [11,49] (λh1 c2 wr=>∃(i:Nat) (z:Pt) (L:Nat),i<=nm.length/\c2= .a (i:Int)/\h1= .slice z ((List.range i).filter S).length L/\Hid (il wr c S)/\Hid (wr.ownsRow b0.heap.size 3 1 (.slice z ((List.range i).filter S).length L) ((List.range i).filter S).length (((List.range i).filter S).map iP))/\Hid (K_ b0 wr)) (λ_ c2 _=>nm.length-(intOf c2).toNat)
    case atStart=>exact⟨0,none,0,NS _,rfl,rfl,f1,OO _ _ _ _,Kz (K_.refl _)⟩
    case round=>
     obtain⟨i,z,L,r,rfl,rfl,c3,HO,c4⟩:=hrel;obtain⟨v,hl⟩:=ai ((List.range i).filter S);have h2:v.length<=60:=by rw[hl];have:=List.length_filter_le S (List.range i);rw[List.length_range] at this;omega
     rw[<-hl] at HO⊢;have c5:=Kz hl;clear hl;by_cases F:i<nm.length;rotate_left
     .have k4:¬((i:Int)<(nm.length:Int)):=A7;have h3:Hid (i=nm.length):=by show i=nm.length;omega
      have h4:Hid (oL wr z v):=by
       obtain⟨k5,k6,f4,_,h9⟩:=nW HO.o rfl;simp only[OG,true_and] at f4;rw[<-f4.1] at h9;exact h9
      clear F;go_wp2
      go_ret
      refine⟨z,L,v,rfl,h4.o,h2, ?_,λp=>?_,f2.o.trans c4.o⟩
      .rw[c5.o];exact List.Pairwise.filter _ List.pairwise_lt_range
      .rw[c5.o,List.mem_filter,List.mem_range,h3.o,h0.o]
     have g7:(i:Int)<(nm.length:Int):=A7;have k7:(i:Int)<60:=A7;have ci:=c3.o.cell (show i<60 by omega);have b1:Hid ((List.range (i+1)).filter S=if S i=true then v++ [i] else v):=by
      show _=_;rw[List.range_succ,List.filter_append,<-c5.o];cases N:S i <;> simp[N]
     cases T:S i
     .rw[T] at ci;go_wp2
      go_roundw
      case rel=>exact⟨i+1,z,L,A7,C8,by rw[b1.o,T];rfl,c3,Kz (by rw[b1.o,T];exact HO.o),c4⟩
      case measure=>simp[intOf];omega
     .rw[T] at ci;obtain⟨ic,h5,h6,h7,h8⟩:=info_parts Tryz.Ep;have ka:K_ wr (wr.alloc (.cells #[.a (i:Int)] 3)):=ah _ _;have c6:=Kz (ak HO.o ka);have f5:=Kz (c4.o.trans ka);have i0:b0.heap.size<=(wr.alloc (.cells #[.a (i:Int)] 3)).heap.size:=f5.o.size;have c7:Hid (∀j u,([.a (i:Int)]:List Pw)[j]? =some u->(wr.alloc (.cells #[.a (i:Int)] 3)).cell? ((⟨wr.heap.size,0,none⟩:Addr).add j)=some u):=λj u hu=>by rw[OI];exact Xz wr #[.a (i:Int)] 3 j u hu
      have i1:Hid (∀u∈([.a (i:Int)]:List Pw),u.oneCell'=true):=λu hu=>by simp only[OL,OM,or_false] at hu;subst hu;rfl
      have c8:=Kz (jG c3.o ka);clear ka;go_wp2_with (at_builtin;refine wpList_append_own _ rfl (.tmp 55) (.tmp 57) 27 rfl b0.heap.size 3 ic _ 1 8 underlying27 h5 h6 h7 h8 rfl A8 (.slice z v.length L) v.length (v.map iP) rfl c6.o ⟨wr.heap.size,0,none⟩ 1 1 [.a (i:Int)] rfl rfl c7.o i1.o D5 A7 i0 ?_;intro v' w6 c9 d0 _;have KP:=aL f5.o (NQ _) c6.o d0;have i2:Hid (il w6 c S):=dL c8.o ((But.aI (S:=λb=>(Value.slice z v.length L).ownBlock=some b) d0 (λb e=>e)).block _ (dP c8.o) (λe=>aK (fU c8.o) (Yz c6.o e) A8 rfl));have i3:=Kz c9;obtain⟨i4,i5,rfl⟩:=ay c9;clear c9 d0)
      go_roundw
      case rel=>exact⟨i+1,i4,i5,A7,C8,by rw[b1.o,T];simp,i2,Kz (by rw[b1.o,T];simp only[if_true,OD,Pi];exact i3.o),Kz KP⟩
      case measure=>simp[intOf];omega
   | cons p Q=>
    have i6:(0:Int)<((p :: Q).length:Int):=A9;have e6:p<nm.length:=y.o p A9;obtain⟨ba,bc,f6,f7⟩:=hV.bwd p e6;obtain⟨q0,q2⟩:=b4.o _ l.o;have i7:Hid (mb<w.heap.size):=hV.mbl;have a1:Hid (∀u,But (λb=>b=f) wr u->J4 u w.heap.size 2 (.b mb nm.length nm.length)/\J4 u mb p (.slice ba (back p).length bc)):=λu a9=>by
     have kk:K_ a u:=a9.kept l.o (λb e=>by rw[e];exact a7.o);exact⟨(b4.o u kk).2,((a8.o.trans kk).cell i7.o).trans f6⟩
    have k8:(p:Int)<(nm.length:Int):=A7;have k9:=(hR.len p).2;have i8:=Kz f7;clear f7 f6 q0;go_upto_region 10 with fail
    refine vk (NG wr f p Q w.heap.size mb nm.length ba (back p).length bc) ?_ ?_
    .refine wG 5 a1.o (But.au (bD wr)) (λn=>?_);have d1:Hid (ib wr.drew f (p :: Q)):=q.o.block (w':=wr.drew) rfl;have d2:Hid (But (λb=>b=f) wr wr.drew):=But.au (bD wr);generalize i9:wr.drew=wd at n d1 d2⊢;clear i9;refine ae 0 n ?_;refine ae 1 n ?_;refine iy 2 6 (λK d=>?_) (λK d=>?_)
     .rw[Pe D8];go_simp
      go_at_call 139
      refine (yg wd f Q p d1.o).mono ?_;rintro e w1 ⟨rfl,a2,a3⟩;have A:=Kz (But.trans d2.o a3);have J:=Kz a2;clear a2 a3;dsimp only;refine d.out _ _ (λ_=>a1.o _ A.o) ?_;clear d K n;have n:=a1.o _ A.o;try simp only[upP]
      refine ae 3 n ?_;refine ae 4 n ?_;refine iy 5 6 (λK d=>?_) (λK d=>?_)
      .go_simp
       refine af d (λh=>Pg rfl h) ?_;clear d K;refine aj 6 (λK d=>?_);go_simp
       refine af d (λ_=>n) ?_;clear d K;refine aG ?_;refine⟨rfl, ?_,J.o,A.o⟩;simp only[List.setIfInBounds_toArray,List.set_cons_zero,OT]
      .go_simp
       refine af d (λ_=>n) ?_;clear d K;refine aj 5 (λK d=>?_);go_simp
       refine af d (λh=>Pg rfl h) ?_;clear d K;refine aG ?_;refine⟨rfl, ?_,J.o,A.o⟩;simp only[List.setIfInBounds_toArray,List.set_cons_zero,OT]
     .go_simp
      refine af d (λ_=>n) ?_;clear d K;refine aF 2 (λK d=>?_);go_simp
      go_at_call 139
      refine (yg wd f Q p d1.o).mono ?_;rintro e w1 ⟨rfl,a2,a3⟩;have A:=Kz (But.trans d2.o a3);have J:=Kz a2;clear a2 a3;dsimp only;refine d.out _ _ (λ_=>a1.o _ A.o) ?_;clear d K n;have n:=a1.o _ A.o;try simp only[upP]
      refine ae 3 n ?_;refine ae 4 n ?_;refine aj 5 (λK d=>?_);go_simp
      refine af d (λh=>Pg rfl h) ?_;clear d K;refine aG ?_;refine⟨rfl, ?_,J.o,A.o⟩;simp only[List.setIfInBounds_toArray,List.set_cons_zero,OT]
    rintro b u ⟨rfl,f8,d3⟩;simp only[List.setIfInBounds_toArray,List.set_cons_zero,OT];have f9:=Kz f8;have g0:Hid (il u c S):=dL k.o (d3.block _ (dP k.o) (λe=>Y e));have g1:Hid (K_ a u):=d3.kept l.o (λb e=>by rw[e];exact a7.o);have B:=Kz HB.o.take;have g2:Hid (∀m∈Q,m<nm.length):=λm hq=>y.o m (Oi _ hq)
    have g3:Hid (2*ko S+Q.length<gk):=by have h:=R.o;rw[OH] at h;show 2*ko S+Q.length<gk;omega
    clear f8 d3 c1 i6 k q HB y l R q2;go_wp2
    go_loopw [33] (λd4 wr=>∃(j:Nat) (S:Nat->Bool) (Q:List Nat),d4= .a (j:Int)/\j<=(back p).length/\Hid (2*ko S+Q.length<gk)/\Hid (il wr c S)/\Hid (ib wr f Q)/\Hid (mI (bL E nm) ps p ((back p).take j) S Q)/\Hid (∀m∈Q,m<nm.length)/\Hid (K_ a wr)) (λd4 _=>(back p).length-(intOf d4).toNat)
    case atStart=>exact⟨0,S,Q,rfl,NS _,g3,g0,f9,B,g2,g1⟩
    case round=>
     clear g3 g0 f9 B g2 g1;obtain⟨j,S,Q,rfl,hj,R,k,q,B,y,l⟩:=hrel;by_cases a4:j<(back p).length;rotate_left
     .have l0:¬((j:Int)<((back p).length:Int)):=A7;have j0:Hid (wW (bL E nm) ps S Q):=B.o.ends (λs N=>by rw[Oy A7];exact (hR.bwd s p).2 N);clear a4;go_wp2
      go_roundg (2*ko S+Q.length)
      case measure=>exact R.o
      case rel=>exact⟨S,Q,Kz rfl,k,q,j0,y,l,trivial⟩
     obtain⟨xb,xo,e1,l1,j1⟩:=(i8.o.kept (a8.o.trans l.o)) j a4;subst e1;obtain⟨s,N⟩:=ai ((back p).getD j 0);rw[<-N] at j1;have d5:(back p)[j]=s:=by rw[N];simp[List.getD,a4]
     have HE:Hid (bL E nm s p):=(hR.bwd s p).1 (by rw[<-d5];exact Oa a4);have j2:s<nm.length:=HE.o.1;have Z:Hid ((back p).take (j+1)= (back p).take j++ [s]):=by show _=_;rw[NY a4,d5]
     have l2:(j:Int)<((back p).length:Int):=A7;have cs:=k.o.cell (show s<60 by omega);have l3:(s:Int)<60:=A7;clear N d5;cases U:S s;rotate_left
     .rw[U] at cs;have j3:=Kz (B.o.old U);go_wp2
      go_roundw
      case rel=>exact⟨j+1,S,Q,C8,A7,R,k,q,Kz (by rw[Z.o];exact j3.o),y,l⟩
      case measure=>simp[intOf];omega
     rw[U] at cs;have c7:=Kz (B.o.new HE.o U);have j4:Q.length<60:=wX B.o.nd (λm hq=>NR (y.o m hq) hn) (show s<60 by omega) (λh=>by have:=B.o.q s h;rw[U] at this;cases this);have j5:=Kz (Cq (show s<60 by omega) U);have fs:=k.o.frozen s;have t:=Kz (il.put k.o s);have G:Hid (K_ a (wr.setCell ⟨c,s,none⟩ (.bool true))):=(But.set (S:=λb=>b=c) (But.au (K_.refl wr)) (p:=⟨c,s,none⟩) rfl _).kept l.o (λb e=>by rw[e];exact e2.o);have H:=Kz (q.o.block (w':=wr.setCell ⟨c,s,none⟩ (.bool true)) (Below.heap_setCell _ _ _ _ (λe=>Y (Eq.symm e))));go_upto_region 15 with fail
     generalize b6:wr.setCell ⟨c,s,none⟩ (.bool true)=w7 at t G H⊢;clear b6 fs cs;go_wp2_with fail
     refine (wH w7 f Q s H.o j4).mono ?_;rintro e P ⟨rfl,a0,I⟩;have b7:=Kz a0;have b8:Hid (il P c (λa5=>if a5=s then true else S a5)):=dL t.o (I.block _ (dP t.o) (λe=>Y e));have b9:Hid (K_ a P):=I.kept G.o (λb e=>by rw[e];exact a7.o);have j6:Hid (2*ko (λa5=>if a5=s then true else S a5)+ (Q++ [s]).length<gk):=by
      have l4:=j5.o;have l5:=R.o;rw[OD];simp only[OH,List.length_nil];show _<_;omega
     have j7:Hid (∀m∈Q++ [s],m<nm.length):=λm hq=>by
      rcases N_.1 hq with h|h
      .exact y.o m h
      .rw[NZ] at h;rw[h];exact j2
     clear a0 I t G H;go_wp2
     go_roundw
     case rel=>exact⟨j+1,_,_,C8,A7,j6,b8,b7,Kz (by rw[Z.o];exact c7.o),j7,b9⟩
     case measure=>simp[intOf];omega
