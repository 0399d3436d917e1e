import Derived.Test.YtgnkgfjmbmcfcaaGreatDoorKHSlots
import Derived.Test.YtgnkgfjmbmcfcaaGreatDoorKDHas
import Derived.Test.YtgnkgfjmbmcfcaaGreatDoorKBRangeC
import Derived.Test.YtgnkgfjmbmcfcaaGreatDoorKShelfS
import Derived.Sort.OwnSorted
set_option maxRecDepth 100000
set_option maxHeartbeats 25600000
namespace Go.Proofs.YtgnkgfjmbmcfcaaGreatDoor
open Go.RowKit Go.Proofs.Tryz
def gP(w:Qy)(B g n cap:Nat)(f:Nat->aF):Prop:=w.ownsRow B 109 3 (.slice (some ⟨g,0,none⟩) n cap) n (bK aF.cells f n)
def qC(u:Qy)(g k:Nat)(x:aF):Prop:=u.cell? ⟨g,k,none⟩=some (.int .i64 x.at')/\u.cell? ⟨g,k+1,none⟩=some (.int .i64 (x.worker:Int))/\u.cell? ⟨g,k+2,none⟩=some (.string x.name)
section
variable {w w' : Qy} {B g n cap : Nat} {f : Nat -> aF}
theorem mY(x:aF):x.cells.length=3:=rfl
theorem gP.kept(h:gP w B g n cap f)(k:K_ w w'):gP w' B g n cap f:=ai h k
theorem gP.lt(h:gP w B g n cap f):g<w.heap.size/\B<=g:=by
 have:=World.ownsRow.lt h g rfl;exact⟨this.2,this.1⟩
theorem gP.at(h:gP w B g n cap f){i:Nat}(hi:i<n):qC w g (i*3) (f i):=by
 have b:∀j,j<3->w.cell? ⟨g,i*3+j,none⟩= ((f i).cells)[j]? :=fun j d=>by
  have e:i*3+j<n*3:=by omega
  rw[World.ownsRow.cellAt h _ e];exact qy mY f hi d
 exact⟨b 0 (by omega),b 1 (by omega),b 2 (by omega)⟩
theorem gP.there(h:gP w B g n cap f){i:Nat}(hi:i<n):w.there g (i*3) 3:=by
 rcases h.2 with⟨e,_⟩|⟨l,p,b,e,_,c,q,_,d,_⟩
 ·cases e
 ·injection e with a r j;injection a with a;injection a with a;subst a j;have k:aL w g 109 (cap*3):=⟨b,c,d⟩;exact k.row.there (o:=i*3) (m:=3) (by omega)
theorem gP.set(h:gP w B g n cap f){i:Nat}(hi:i<n)(y:aF):gP (w.setCells g (i*3) y.cells) B g n cap (fun k=>if k=i then y else f k):=by
 have c:=iP mY f n;have a:=xV y.cells (i*3) h (by rw[mY,c];omega);rw[uL mY f y hi] at a;exact a
theorem gP.congr{a:Nat->aF}(h:gP w B g n cap f)(e:∀i,i<n->f i=a i):gP w B g n cap a:=by
 unfold gP at h⊢;rw[<-gQ e];exact h
end
def zS(f:Nat->aF)(n k:Nat)(m:Nat):aF:=if m<k\/n<=m+k then f (n-1-m) else f m
theorem Jl(f:Nat->aF){n k:Nat}(h:k+1+k<n)(m:Nat)(e:m<n):(if m=n-1-k then zS f n k k else if m=k then zS f n k (n-1-k) else zS f n k m)=zS f n (k+1) m:=by
 unfold zS;by_cases a:m=n-1-k
 ·rw[Qg a,Qh (by omega),Qg (by omega)]
  congr 1
  omega
 ·rw[Qh a];by_cases b:m=k
  ·rw[Qg b,Qh (by omega),Qg (by omega)]
   congr 1
   omega
  ·rw[Qh b];by_cases c:m<k\/n<=m+k
   ·rw[Qg c,Qg (by omega)]
   ·rw[Qh c,Qh (by omega)]
theorem DD(w:Qy)(B g n cap:Nat)(f:Nat->aF)(c:gP w B g n cap f)(W:n<=1000000):
  Calls prog 87 #[.slice (some ⟨g,0,none⟩) n cap] w fun e w'=>e= .returned (.tuple #[])/\gP w' B g n cap (fun m=>f (n-1-m))/\But (fun x=>x=g) w w':=by
 have H:=Kz c;clear c;have I:IntKind.i64.wrap ((n:Int)-1)= (n:Int)-1:=dK (by omega) (by omega);go_enter func87,ntmps87
 go_wp2
 go_loopw [2,3] (fun q J wr=>∃k:Nat,q= .int .i64 (k:Int)/\J= .int .i64 ((n:Int)-1-(k:Int))/\2*k<=n/\Hid (gP wr B g n cap (zS f n k))/\Hid (But (fun x=>x=g) w wr)) (fun q _ _=>n-(intOf q).toNat)
 case atStart=>exact⟨0,rfl,by simp,by omega,H.o.congr (fun X Y=>by unfold zS;rw[Qh (by omega)]),.aj (K_.refl w)⟩
 case round=>
  obtain⟨k,rfl,rfl,Z,d,C⟩:=hrel;clear I;by_cases L:k+1+k<n
  ·have M:(k:Int)<(n:Int)-1-(k:Int):=by omega
   obtain⟨j,r⟩:=ag (n-1-k);have s:(n:Int)-1-(k:Int)= (j:Int):=by omega
   rw[s] at M⊢;have a0:(j:Int)<(n:Int):=by omega
   have a1:(k:Int)<(n:Int):=by omega
   obtain⟨F,i⟩:=ag (zS f n k);rw[<-i] at d;have⟨a2,HJ,N⟩:=bA i r s;obtain⟨t,v⟩:=ag wr.drew;have y:K_ wr t:=by rw[v];exact (bB wr)
   have O:=Kz v;have a3:=d.o.lt.1;have P:Hid (∀u,K_ wr u->qC u g (k*3) (F k)/\qC u g (j*3) (F j)):=fun u D=>⟨((d.o.kept D).at (by omega)),((d.o.kept D).at (by omega))⟩
   have z:=d.o.kept y;obtain⟨l,p⟩:=ag (t.setCells g (k*3) (F j).cells);have A:gP l B g n cap (fun m=>if m=k then F j else F m):=by rw[p];exact z.set (by omega) (F j)
   have Q:=Kz (z.there (i:=k) (by omega));have R:=Kz (A.there (i:=j) (by omega));have E:=A.set (i:=j) (by omega) (F k);have T:Hid (gP (l.setCells g (j*3) (F k).cells) B g n cap (zS f n (k+1))):=by
    refine E.congr (fun m G=>?_);rw[<-Jl f L m G,<-i,<-r]
   have U:Hid (But (fun x=>x=g) w (l.setCells g (j*3) (F k).cells)):=by
    refine C.o.trans ?_;rw[p];exact But.setCells (S:=fun x=>x=g) rfl _ _ (But.setCells (S:=fun x=>x=g) rfl _ _ (.aj y))
   have V:=Kz p;clear i r s v y z p A E;go_wp2
   refine UpZ.region (by kernel_rfl) (fun u=>qC u g (k*3) (F k)/\qC u g (j*3) (F j)) [13,15] (P.o _ (bB wr)) (fun b=>?_);rw[<-O.o] at b⊢;refine UpZ.tk 0 b ?_ (hy:=fun u a=>by dsimp only[qC] at a;go_simp;try with_reducible rfl);refine UpZ.tk 1 b ?_ (hy:=fun u a=>by dsimp only[qC] at a;go_simp;try with_reducible rfl);refine UpZ.pu 2 ?_;refine UpZ.pu 3 ?_;refine UpZ.tk 4 b ?_ (hy:=fun u a=>by dsimp only[qC] at a;go_simp;try with_reducible rfl);refine UpZ.tk 5 b ?_ (hy:=fun u a=>by dsimp only[qC] at a;go_simp;try with_reducible rfl);refine UpZ.tk 6 b ?_ (hy:=fun u a=>by dsimp only[qC] at a;go_simp;try with_reducible rfl);refine UpZ.tk 7 b ?_ (hy:=fun u a=>by dsimp only[qC] at a;go_simp;try with_reducible rfl);refine UpZ.tk 8 b ?_ (hy:=fun u a=>by dsimp only[qC] at a;go_simp;try with_reducible rfl);refine UpZ.tk 9 b ?_ (hy:=fun u a=>by dsimp only[qC] at a;go_simp;try with_reducible rfl);refine UpZ.tk 10 b ?_ (hy:=fun u a=>by dsimp only[qC] at a;go_simp;try with_reducible rfl);refine UpZ.tk 11 b ?_ (hy:=fun u a=>by dsimp only[qC] at a;go_simp;try with_reducible rfl);refine UpZ.tk 12 b ?_ (hy:=fun u a=>by dsimp only[qC] at a;go_simp;try with_reducible rfl);refine UpZ.nx 13 (fun K h=>?_);rw[if_pos (by rfl)];refine wp_store_mid 109 _ _ rfl g (k*3) #[.int .i64 (F j).at',.int .i64 ((F j).worker:Int),.string (F j).name] (by rfl) (by rfl) Q.o (by kernel_rfl) (yK _ _ _) ?_;rw[show t.setCells g (k*3) (Array.toList #[.int .i64 (F j).at',.int .i64 ((F j).worker:Int),.string (F j).name])=l from V.o.symm];refine h.out _ _ (fun c=>absurd (by decide) c) ?_;clear h K;try simp only[Act.put]
   refine UpZ.pu 14 ?_;refine UpZ.nx 15 (fun K h=>?_);rw[Qg (by rfl)];refine wp_store_mid 109 _ _ rfl g (j*3) #[.int .i64 (F k).at',.int .i64 ((F k).worker:Int),.string (F k).name] (by rfl) (by rfl) R.o (by kernel_rfl) (yK _ _ _) ?_;refine h.out _ _ (fun c=>Qi (by decide) c) ?_;clear h K;try simp only[Act.put]
   refine UpZ.dn ?_;go_wp2
   go_roundw
   case rel=>exact⟨k+1,by go_num,by have:=N.o;simp only[Value.int.injEq,true_and];omega,by omega,T,U⟩
   case measure=>simp[intOf];omega
  ·have a4:¬(k:Int)<(n:Int)-1-(k:Int):=by omega
   go_wp2
   go_end0
   refine⟨rfl,d.o.congr (fun m G=>?_),C.o⟩;unfold zS;by_cases e:m<k\/n<=m+k
   ·rw[Qg e]
   ·rw[Qh e]
    congr 1
    omega
theorem EX(w:Qy)(x:gM)(loc:Qw->Nat)(a:Nat)(t:Int)(b:a<w.heap.size)(c:w.cell? ⟨a,0,none⟩=some (.int .i64 t)):
  Calls prog 86 #[qE loc x,.pointer (some ⟨a,0,none⟩)] w fun e w'=>e= .returned (.bool (x.fin == t))/\K_ w w':=by
 unfold qE;have d:a≠w.heap.size:=by omega
 go_enter func86,ntmps86
 go_wp2
 go_ret
 exact⟨rfl,ak _ _⟩
def FL(es:Nat->gM)(n:Nat)(t:Int)(i:Int):Prop:=(i= -1/\∀p,p<n->(es p).fin≠t)\/∃p:Nat,i=p/\p<n/\(es p).fin=t/\∀q,q<p->(es q).fin≠t
def JB(es:Nat->gM)(n:Nat)(t:Int)(w:Qy)(e:Ending)(w':Qy):Prop:=∃i:Int,e= .returned (.int .i64 i)/\FL es n t i/\K_ w w'
theorem Cc(w:Qy){b o K:Nat}{loc:Qw->Nat}{L:QA}{c:Nat->gM}{n:Nat}{m:Qx}{p:Nat}(r:aK w b o K 147 7 (dP loc) L c n m p)(S:n<=100000)(f:Nat)(t:Int)(M:f<w.heap.size)(s:w.cell? ⟨f,0,none⟩=some (.int .i64 t)):
  Calls prog 85 #[.slice m n p,.func (.func 86) #[] #[.pointer (some ⟨f,0,none⟩)]] w fun e w'=>JB c n t w e w':=by
 have⟨v,N⟩:=aD r s;clear r s;go_enter func85,ntmps85
 go_wp2
 go_loopw [8] (fun h wr=>∃k:Nat,k<=n/\h= .int .i64 (k:Int)/\Hid (∀q,q<k->(c q).fin≠t)/\Hid (K_ w wr)) (fun h _=>n-(intOf h).toNat)
 case atStart=>exact⟨0,OW _,rfl,fun q y=>aB y,K_.refl _⟩
 case round=>
  obtain⟨k,T,rfl,i,d⟩:=hrel;by_cases z:k<n
  ·have O:(k:Int)<(n:Int):=by omega
   obtain⟨U,rfl,_,_,_⟩:=v.o.pos (by omega);obtain⟨A,B,C,D,E,F,G⟩:=(v.o.kept d.out).rf z;have g:=EX wr (c k) loc f t (by have:=d.out.size;omega) ((d.out.cell M).trans N.o);unfold qE at g;obtain⟨x,j⟩:=ag (c k);rw[<-j] at A B C D E F G g;have⟨H,P⟩:=aD j g;clear j g;go_wp2_with fail
   refine P.o.mono ?_;rintro e V ⟨rfl,I⟩;have J:=Kz (d.out.trans I);clear I A B C D E F G;by_cases a:x.fin=t
   ·have Q:(x.fin == t)=true:=by simpa using a
    have l:=Kz a;clear a;go_wp2
    go_ret
    exact⟨k,rfl,.inr ⟨k,rfl,z,by rw[<-H.o];exact l.o,i.o⟩,J.o⟩
   ·have Q:(x.fin == t)=false:=by simpa using a
    have l:=Kz a;clear a;go_wp2
    go_roundw
    case rel=>
     refine⟨k+1,by omega,by go_num,fun q y=>?_,J⟩;by_cases e:q=k
     ·rw[e,<-H.o];exact l.o
     ·exact i.o q (by omega)
    case measure=>simp[intOf];omega
  ·have O:¬(k:Int)<(n:Int):=by omega
   go_wp2
   go_ret
   exact⟨-1,rfl,.inl ⟨rfl,fun R W=>i.o R (by omega)⟩,d.out⟩
theorem Ig(l:List aF):bK aF.cells (fun i=>l.getD i aF.zero) l.length=bI l:=by
 refine List.ext_getElem? (fun k=>?_);by_cases c:k<l.length*3
 ·have e:k=k / 3*3+k % 3:=by omega
  rw[e,qy mY _ (by omega) (by omega),ma l _ _ (by omega) (by omega)]
 ·rw[List.getElem?_eq_none (by rw[iP mY];omega),List.getElem?_eq_none (by rw[lq];omega)]
theorem Cr(w:Qy):Calls prog 87 #[.slice none 0 0] w fun e w'=>e= .returned (.tuple #[])/\w'=w:=by
 go_enter func87,ntmps87
 go_wp2
 go_loopw [2,3] (fun a b wr=>a= .int .i64 0/\b= .int .i64 (-1)/\wr=w) (fun _ _ _=>0)
 case atStart=>exact⟨rfl,rfl,rfl⟩
 case round=>
  obtain⟨rfl,rfl,rfl⟩:=hrel;go_wp2
  go_end0
  exact⟨rfl,rfl⟩
theorem Fu(w:Qy)(B n cap:Nat)(a:Qx)(l:List aF)(h:w.ownsRow B 109 3 (.slice a n cap) n (bI l))(j:n<=1000000):
  Calls prog 87 #[.slice a n cap] w fun e w'=>e= .returned (.tuple #[])/\w'.ownsRow B 109 3 (.slice a n cap) n (bI l.reverse)/\But (fun x=>B<=x) w w':=by
 have k:=(lN h).1;subst k;rcases h.2 with⟨e,m⟩|⟨f,y,z,e,p,A,C,_,_,_⟩
 ·injection e with b q c;subst b c;have r:l=[]:=Qo m;subst r;refine (Cr w).mono ?_;rintro e w' ⟨rfl,rfl⟩;exact⟨rfl,h,.aj (K_.refl _)⟩
 ·injection e with b q c;subst b c;rw[<-Ig] at h;refine (DD w B f _ _ _ h j).mono ?_;rintro e w' ⟨rfl,s,t⟩;refine⟨rfl, ?_,t.mono (fun x _ e=>by rw[e];exact p)⟩;have d:gP w' B f l.length cap (fun i=>l.reverse.getD i aF.zero):=s.congr (fun i v=>by
   simp only[List.getD,List.getElem?_reverse v])
  have g:=Ig l.reverse;rw[List.length_reverse] at g;unfold gP at d;rw[g] at d;exact d
def Om(W:aZ)(l:List aF)(bk:List Int)(t:Int)(w:Qy)(e:Ending)(w':Qy):Prop:=
 ∃(a':Qx) (ch:List aF) (p:Int),e= .returned (.slice a' ch.length ch.length)/\jW W l t p/\ChR l bk p ch/\ch.length<=l.length/\iG w' w.heap.size w'.heap.size a' ch/\K_ w w'
theorem FL.ends{W:aZ}{b:Nat->gM}{l:List aF}{bk:List Int}{t i:Int}(h:FL b l.length t i)(q:bk.length=l.length)(d:∀p,p<l.length->b p=iR W l bk p):jW W l t i/\ -1<=i/\i<l.length:=by
 have c:∀p (a:p<l.length),(b p).fin=l[p].at'+aM W l[p].name:=fun p a=>by
  rw[d p a];unfold iR;rw[OZ a,OZ (by omega)]
 rcases h with⟨rfl,h⟩|⟨p,rfl,a,e,f⟩
 ·refine⟨.inl ⟨rfl,fun s g=>?_⟩,by omega,by omega⟩;obtain⟨p,a,rfl⟩:=Ph g;rw[<-c p a];exact h p a
 ·refine⟨.inr ⟨p,l[p],rfl,OZ a,by rw[<-c p a];exact e,fun j x k m=>?_⟩,by omega,by omega⟩;obtain⟨n,rfl⟩:=O_.1 m;rw[<-c j n];exact f j k
theorem zJ{c:jo}{mx mq:Nat}{D:dm}{w:Qy}{W:aZ}{l:List aF}{bk:List Int}{t:Int}(h:bF c mx mq l.length D w)(Y:∀p,p<l.length->D.es p=iR W l bk p)(Z:bk.length=l.length)(a0:∀(p:Nat) (c:Int),bk[p]? =some c-> -1<=c/\c<p)(hl:l.length<=100000)(d:∀s∈l,s.name.size<=1048576):
  Calls prog 33 #[.pointer (some ⟨c.cb,0,none⟩),.int .i64 t] w fun e w'=>Om W l bk t w e w':=by
 obtain⟨cb,a1⟩:=ag c.cb;have a:=h.Gz;rw[<-a1] at a⊢;obtain⟨ea,a2⟩:=ag D.ea;rw[<-a2] at a;obtain⟨G,H⟩:=ag l.length;rw[<-H] at a hl;have⟨HH,HE,HS,y,I⟩:=dX a Y d H Z;have b6:=Kz a0;have J:=a.lt;have K:=a.c0;obtain⟨z,n⟩:=ag (w.alloc (.cells #[.int .i64 t] 3));have L:K_ w z:=by rw[n];exact ak _ _
 have q0:=(Es (w:=w) (v:= .int .i64 t) (t:=3) (w1:=z) (by rw[n];exact K_.refl _)).1;have z1:w.heap.size<z.heap.size:=by rw[n];simp
 have b7:=Kz (Cc z (a.kept L) hl w.heap.size t z1 q0);have b8:=(L.cell (o:=1) J).trans K;obtain⟨ic,b9,c1,c2,c3⟩:=aN Tryz.nJ;have c4:=Kz n;clear h Y d a1 a a2 H Z a0 n q0;go_enter func33,ntmps33
 go_wp2_with fail
 rw[<-c4.o];refine b7.o.mono ?_;rintro e w2 ⟨i,rfl,hi,k2⟩;have M:=hi;rw[y.o] at M;obtain⟨g1,g2,g3⟩:=M.ends I.o HE.o;have c5:=Kz g1;have K2:=L.trans k2;clear hi M k2 b8;go_wp2
 go_loopw [5,7] (fun x5 N wr=>∃(q:Int) (o:List aF) (f:Qx) (m g:Nat),N= .int .i64 q/\x5= .slice f m g/\ -1<=q/\q<(G:Int)/\Hid (wr.ownsRow w.heap.size 109 3 (.slice f m g) m (bI o))/\Hid (∀rest,ChR l bk q rest->ChR l bk i (rest++o.reverse))/\Hid (∀s∈o,s∈l)/\Hid ((m:Int)+q<=i)/\Hid (K_ w wr)) (fun _ N _=>(intOf N+1).toNat)
 case atStart=>exact⟨i,[],none,0,0,rfl,rfl,g2,by rw[y.o];exact g3,PU _ _ _ _,fun rest h=>(by simpa using h),fun s d=>(by simp at d),by show ((0:Nat):Int)+i<=i;omega,K2⟩
 case round=>
  obtain⟨q,o,f,m,g,rfl,rfl,c6,c7,HO,HC,HM,O,r⟩:=hrel;have e0:(m:Int)<=100000:=by have:=O.o;rw[<-y.o] at g3;omega
  by_cases hq:0<=q
  ·obtain⟨p,rfl⟩:∃p:Nat,q=p:=⟨q.toNat,by omega⟩;have a5:p<G:=by omega
   have j:p<l.length:=by rw[<-y.o];exact a5
   obtain⟨s,A⟩:=ag (l[p]);obtain⟨k,P⟩:=ag (bk[p]'(by rw[I.o];exact j));have a6:D.es p= ⟨s.at',(s.worker:Int),s.name,s.at'+aM W s.name,p,k⟩:=by
    rw[HE.o p j];unfold iR;rw[OZ j,OZ (by rw[I.o];exact j),<-A,<-P]
   have Q:bk[p]? =some k:=by rw[P];exact OZ _
   have a7:=b6.o p k Q;have c8:Hid (∀rest,ChR l bk k rest->ChR l bk i (rest++ (o++ [s]).reverse)):=fun rest hr=>by
    have c9:l[p]? =some s:=by rw[A];exact OZ j
    have h:=HC.o _ (ChR.go c9 Q hr);rw[List.reverse_append,List.reverse_singleton];simpa using h
   have d0:Hid (∀R∈o++ [s],R∈l):=fun R x=>by
    rcases Pe.1 x with x|x
    ·exact HM.o R x
    ·rw[Pd.1 x,A];exact Pf j
   obtain⟨e1,rfl,e2,_,_⟩:=HH.o.pos (by omega);have B:=fun (u:Qy) (ku:K_ w u)=>(HH.o.kept ku).rf a5
   rw[a6] at B;have⟨d1,a8⟩:=aD B a7;obtain⟨e3,e4,a3,_,_,_,_⟩:=B wr r.o;have e5:=(r.o.cell (o:=1) J).trans K;have e6:(p:Int)<(G:Int):=by omega
   have C:K_ wr (wr.alloc (.cells #[.int .i64 s.at',.int .i64 (s.worker:Int),.string s.name] 109)):=ak _ _;have a9:=Kz (ai HO.o C);have d2:w.heap.size<=(wr.alloc (.cells #[.int .i64 s.at',.int .i64 (s.worker:Int),.string s.name] 109)).heap.size:=(r.o.trans C).size;have d3:Hid (∀E u,([.int .i64 s.at',.int .i64 (s.worker:Int),.string s.name]:List QA)[E]? =some u->(wr.alloc (.cells #[.int .i64 s.at',.int .i64 (s.worker:Int),.string s.name] 109)).cell? ((⟨wr.heap.size,0,none⟩:Addr).add E)=some u):=fun E u F=>by have:=X_ wr #[.int .i64 s.at',.int .i64 (s.worker:Int),.string s.name] 109 E u F;rw[PQ];exact this
   have d4:Hid (∀u∈([.int .i64 s.at',.int .i64 (s.worker:Int),.string s.name]:List QA),u.oneCell'=true):=fun u F=>by simp only[PS,PT,or_false] at F;rcases F with rfl | rfl | rfl <;> rfl
   have KK:=Kz (r.o.trans C);clear C A P a6 Q a7 B c6 c7;go_wp2_with (at_builtin;refine wpList_append_own _ rfl (.tmp 25) (.tmp 34) 28 rfl w.heap.size 109 ic _ 3 32 underlying28 b9 c1 c2 c3 rfl (by decide) (.slice f m g) m (bI o) rfl a9.o ⟨wr.heap.size,0,none⟩ 1 1 [.int .i64 s.at',.int .i64 (s.worker:Int),.string s.name] rfl rfl d3.o d4.o (by unfold maxLen;omega) (by omega) d2 ?_;intro v' w6 S b0 _;have T:=aC KK.out (Nat.le_refl _) a9.o b0;have HP:=Kz S;obtain⟨d5,d6,rfl⟩:=aG S;have e7:=(T.cell (o:=1) J).trans K;obtain⟨_,_,_,_,_,_,d7⟩:=d1.o w6 T;dsimp only at d7;clear S b0)
   go_roundw
   case rel=>
    have U:=a8.o;have h2:=O.o;refine⟨k,o++ [s],d5,m+1,d6,rfl,rfl,U.1,by omega, ?_,c8,d0,by show ((m+1:Nat):Int)+k<=i;omega,T⟩;show _;rw[kP];exact HP.o
   case measure=>have U:=a8.o;simp[intOf];omega
  ·have e8:¬0<=q:=hq;have d8:Hid (ChR l bk i o.reverse):=by have h:=HC.o [] (.stop (by omega));rw[List.nil_append] at h;exact h
   have b1:=Fu wr w.heap.size m g f o HO.o (by omega);clear hq;go_wp2_with fail
   refine b1.mono ?_;rintro e w3 ⟨rfl,b2,k3⟩;have K3:K_ w w3:=k3.kept r.o (fun b e=>e);obtain⟨V,b3⟩:=lN b2;have X:=uV w3 f g o.reverse (by omega) (fun s d=>HS.o s (HM.o s (List.mem_reverse.1 d))) b3;rw[<-V] at X;have b4:=Kz V;clear b1 b2 k3 V b3;go_wp2_with fail
   refine X.mono ?_;rintro e w4 ⟨a4,rfl,b5,k4⟩;have d9:=Kz b5;clear b5 X;go_wp2
   go_ret
   exact⟨a4,o.reverse,i,by rw[b4.o];rfl,c5.o,d8.o,(by have U:=b4.o;have h2:=O.o;omega),d9.o.mono K3.size (OU _),K3.trans k4⟩
theorem yV{l:List Qz}(h:cu l 0):mV l:=by
 have a:¬jA l:=by
  rcases h with⟨_,e⟩|⟨_,_,e⟩|⟨_,_,_,e⟩|⟨_,_,_,_,e⟩|⟨_,_,b,_,_⟩
  ·omega
  ·omega
  ·omega
  ·omega
  ·exact b
 refine Ld fun i c=>?_
 cases d:Op.bytesLess (nameAt l i) (nameAt l (i+1))
 ·exact Qi ⟨i,c,d⟩ a
 ·rfl
structure Cm (Kq:List Qz) (L:List Qw) (ts:List Zk):Prop where
 env:∀n,Qq (Qj ts) n=if fK L n=true/\(Kk Kq n).isSome=true then some (Q_.fresh n) else none
 fr:∀t∈ts,t.r=Q_.fresh t.r.name/\t.op=0/\t.bq= (⟨#[]⟩,[])
theorem Cm.nil(Kq:List Qz):Cm Kq [] []:=⟨fun n=>by rw[Qh (by simp[fK])];rfl,fun t h=>by cases h⟩
variable {Kq : List Qz}
theorem Cm.want{L:List Qw}{ts k:List Zk}{n:Qw}(h:Cm Kq L ts)(C:dB (Qj ts))(q:dB (Qj k))(d:KR Kq ts n k):Cm Kq (L++ [n]) k:=by
 have e:∀m,fK (L++ [n]) m=true↔fK L m=true\/m=n:=fun m=>by simp[dV]
 rcases d with⟨rfl,d⟩|⟨p,new,rfl,l,s,D,t⟩
 ·refine⟨fun m=>?_,h.fr⟩;rw[h.env m];by_cases a:fK L m=true/\(Kk Kq m).isSome=true
  ·rw[Qg a,Qg ⟨(e m).2 (.inl a.1),a.2⟩]
  ·rw[Qh a,Qh];rintro⟨c,f⟩;rcases (e m).1 c with g|g
   ·exact a ⟨g,f⟩
   ·subst g;rcases d with d|⟨v,w,i⟩
    ·rw[d] at f;cases f
    ·have:=h.env m;rw[Qh a] at this;exact jf.1 this v w i
 ·have j:∀u,u∈ts.take p++new :: ts.drop p↔u=new\/u∈ts:=fun u=>by
   rw[Pe,PS];constructor
   ·rintro (h|h|h)
    ·exact .inr (List.mem_of_mem_take h)
    ·exact .inl h
    ·exact .inr (List.mem_of_mem_drop h)
   ·rintro (h|h)
    ·exact .inr (.inl h)
    ·rw[<-Qa p ts] at h;rcases Pe.1 h with h|h
     ·exact .inl h
     ·exact .inr (.inr h)
  refine⟨fun m=>?_,fun u b=>?_⟩
  ·by_cases i:m=n
   ·subst i;rw[Qg ⟨(e m).2 (.inr rfl),t⟩];have:=bU q (r:=new.r) (PV ((j new).2 (.inl rfl)));rw[l] at this;exact this
   ·have y:Qq (Qj (ts.take p++new :: ts.drop p)) m=Qq (Qj ts) m:=by
     cases c:Qq (Qj ts) m with
     | some x=>
      obtain⟨z,A⟩:=bN c;obtain⟨u,b,rfl⟩:=Pv.1 z;have:=bU q (r:=u.r) (PV ((j u).2 (.inr b)));rw[A] at this;exact this
     | none=>
      rw[jf] at c⊢;intro u b;rcases (j u).1 b with rfl|b
      ·rw[l];exact fun B=>i B.symm
      ·exact c u b
    rw[y,h.env m];by_cases a:fK L m=true/\(Kk Kq m).isSome=true
    ·rw[Qg a,Qg ⟨(e m).2 (.inl a.1),a.2⟩]
    ·rw[Qh a,Qh];rintro⟨c,f⟩;rcases (e m).1 c with g|g
     ·exact a ⟨g,f⟩
     ·exact i g
  ·rcases (j u).1 b with rfl|b
   ·exact⟨by rw[l];rfl,s⟩
   ·exact h.fr u b
theorem Cm.done{f:List Qw}{ts:List Zk}(h:Cm Kq f ts)(i:a_ (Kk Kq))(g:dB (Qj ts)):BS Kq ts (fun _=>[])/\Qq (Qj ts)=Qq (bY Kq f):=by
 refine⟨⟨⟨g,fun r j=>?_⟩,fun t b=>?_,fun s t b=>?_,fun _=>List.nodup_nil,fun s p l=>(by cases l),fun t b=>Cq.still (congrArg Prod.fst (h.fr t b).2.2) (by rw[(h.fr t b).1];rfl),fun t b=>xu.still (congrArg Prod.snd (h.fr t b).2.2) (h.fr t b).1⟩, ?_⟩
 ·have d:=bU g j;rw[h.env] at d
  split at d
  ·rename_i e
   have m:Q_.fresh r.name=r:=PW d;rw[<-m];exact lM i e.2
  ·cases d
 ·obtain⟨d,e⟩:=h.fr t b;rw[d,nX,e.1]
  rfl
 ·obtain⟨d,_⟩:=h.fr t b;rw[d,nX];simp
 ·funext n
  rw[h.env n,lw]
theorem BM.begun{b:Qy}{a:Qx}{cap:Nat}{rd:Qx}{d rc:Nat}(e:aL ((b.alloc (.map #[] 0)).alloc (.cells #[.slice a Kq.length cap,.func (.func 111) #[] #[],.slice rd d rc,.slice none 0 0,.func (.func 63) #[] #[],.map (some b.heap.size)] 128)) (b.heap.size+1) 128 6)(c:((b.alloc (.map #[] 0)).alloc (.cells #[.slice a Kq.length cap,.func (.func 111) #[] #[],.slice rd d rc,.slice none 0 0,.func (.func 63) #[] #[],.map (some b.heap.size)] 128)).rangeAt (b.heap.size+1) 0 [.slice a Kq.length cap,.func (.func 111) #[] #[],.slice rd d rc,.slice none 0 0,.func (.func 63) #[] #[],.map (some b.heap.size)]):
  BM (cO.no b) Kq b ((b.alloc (.map #[] 0)).alloc (.cells #[.slice a Kq.length cap,.func (.func 111) #[] #[],.slice rd d rc,.slice none 0 0,.func (.func 63) #[] #[],.map (some b.heap.size)] 128)) (b.heap.size+1) a cap rd d rc b.heap.size 0 [] none 0 (fun _=>.slice none 0 0) (fun _=>[]):=
 ⟨(ak _ _).alloc _,e,c 0 _ rfl,c 1 _ rfl,c 2 _ rfl,c 3 _ rfl,c 4 _ rfl,c 5 _ rfl,Nat.le_succ _,PU _ _ _ _,fun t h=>(by cases h),fun t h=>(by cases h),List.Pairwise.nil,List.nodup_nil,List.Pairwise.nil,fun t h=>(by cases h),⟨0,.map [],OU _,(World.ownsMap_made b prog 9 asIs).alloc _,fun s _=>rfl⟩,OU _,fun s=>PU _ _ _ _,fun s f _ x h=>(by cases h),fun s x h=>(by cases h),fun t h=>(by cases h),Fen.no (by simp only[PL];omega),fun _ h=>(by cases h)⟩
def NC(Kq:List Qz)(Kj:List Qw)(a:Qx)(cap:Nat)(rd:Qx)(rc:Nat)(w w':Qy)(e:Ending):Prop:=
 K_ w w'/\((¬(cu Kq 0/\eO Kj)/\e= .returned (.tuple #[.pointer none,.bool false]))\/
  (cu Kq 0/\eO Kj/\∃wz bb mb ts d dc,e= .returned (.tuple #[.pointer (some ⟨bb,0,none⟩),.bool true])/\K_ w wz/\BM (cO.no wz) Kq wz w' bb a cap rd Kj.length rc mb 0 ts d dc (fun _=>.slice none 0 0) (fun _=>[])/\BS Kq ts (fun _=>[])/\Qq (Qj ts)=Qq (bY Kq Kj)))
theorem Gf(w:Qy)(a:Qx)(cap:Nat)(Kq:List Qz)(rd:Qx)(rc:Nat)(b:List Qw)(S:Kq.length<=1048576)(T:∀s∈Kq,s.Fits)(U:b.length<=maxLen)(V:b.length<=rc)(W:∀s∈b,s.size<=maxLen)(J:bJ w a Kq)(K:Strs w rd b):
  Calls prog 28 #[.agg #[.slice a Kq.length cap],.slice rd b.length rc] w fun e w'=>NC Kq b a cap rd rc w w' e:=by
 have X:Kq.length<=maxLen:=by unfold maxLen;omega
 go_enter func28,ntmps28
 go_wp2_with fail
 refine (uK MK _ a cap Kq X T (J.kept (by repeat (first | apply K_.alloc | exact K_.refl _)))).mono ?_;rintro e L ⟨⟨M,rfl,g⟩,l⟩;have m:K_ w L:=K_.trans (ak _ _) l;have Y:=l.size;simp only[PL] at Y;have N:=yc (w:=w) l;have h:=Kz g;clear g l;have Z:w.heap.size<L.heap.size:=by omega
 by_cases x:M=0
 ·subst x;go_wp2_with fail
  refine (yP _ rd rc b U V W (K.kept m)).mono ?_;rintro e w2 ⟨y,n⟩;have q2:=(n.cell (o:=0) Z).trans N;have z:=m.trans n;have z2:=n.size;clear N m n;have b1:w.heap.size<w2.heap.size:=by omega
  rcases y.cases with⟨rfl,O⟩|⟨rfl,P⟩
  ·have p:=Kz O;clear O y;go_wp2_with fail
   refine (xW _ a Kq.length cap).mono ?_;rintro e c ⟨rfl,A⟩;have i:=z.trans A;have z3:=A.size;clear q2 A z;have a0:(Instr.makeMap 122 none).run prog c= .ok (.map (some c.heap.size)) (c.alloc (.map #[] 0)):=rfl;go_wp2
   clear a0;have KB:K_ w ((c.alloc (.map #[] 0)).alloc (.cells #[.slice a Kq.length cap,.func (.func 111) #[] #[],.slice rd b.length rc,.slice none 0 0,.func (.func 63) #[] #[],.map (some c.heap.size)] 128)):=(i.alloc _).alloc _;have q:=X_ (c.alloc (.map #[] 0)) #[.slice a Kq.length cap,.func (.func 111) #[] #[],.slice rd b.length rc,.slice none 0 0,.func (.func 63) #[] #[],.map (some c.heap.size)] 128;simp only[PL] at q;have B:=aL.made (c.alloc (.map #[] 0)) #[.slice a Kq.length cap,.func (.func 111) #[] #[],.slice rd b.length rc,.slice none 0 0,.func (.func 63) #[] #[],.map (some c.heap.size)] 128;simp only[PL] at B;have Q:BM (cO.no c) Kq c ((c.alloc (.map #[] 0)).alloc (.cells #[.slice a Kq.length cap,.func (.func 111) #[] #[],.slice rd b.length rc,.slice none 0 0,.func (.func 63) #[] #[],.map (some c.heap.size)] 128)) (c.heap.size+1) a cap rd b.length rc c.heap.size 0 [] none 0 (fun _=>.slice none 0 0) (fun _=>[]):=BM.begun B q;have⟨a1,b2⟩:=aD Q KB;clear q B Q KB;have a2:=nS h.o;go_loopw [29] (fun C wr=>∃(k:Nat) (r:List Zk) (d:Qx) (D:Nat),k<=b.length/\C= .int .i64 k/\BM (cO.no c) Kq c wr (c.heap.size+1) a cap rd b.length rc c.heap.size 0 r d D (fun _=>.slice none 0 0) (fun _=>[])/\Cm Kq (b.take k) r) (fun C _=>b.length-(intOf C).toNat)
   case atStart=>exact⟨0,[],none,0,OW _,rfl,a1.o,Cm.nil Kq⟩
   case round=>
    obtain⟨k,r,d,D,hk,rfl,f,j⟩:=hrel;have b3:=f.len a2;have b4:b.length<=10:=p.o.2.1;by_cases E:k<b.length
    ·obtain⟨a3,o,rfl,hb,g⟩:=K k E;obtain⟨F,G⟩:=ag (b.getD k ByteArray.empty);rw[<-G] at g;have c0:wr.cell? ⟨a3,o+k,none⟩=some (.string F):=((i.trans f.kw).cell hb).trans g;have a4:Hid (b.take (k+1)=b.take k++ [F]):=by show _=_;rw[Pb E,G];simp[List.getD,E]
     have HW:=Kz (vJ f F (by omega) S (yV h.o) (J.kept i));have⟨a5,t⟩:=aD f.asc j;have i0:(k:Int)<(b.length:Int):=by omega
     clear G f j g;go_wp2_with fail
     refine (aP HW).mono ?_;rintro e w5 ⟨rfl,a6,d5,a7,H,R⟩;have a8:=Kz H;have a9:=Kz (t.o.want a5.o H.asc R);clear H R;go_wp2
     go_roundw
     case rel=>exact⟨k+1,a6,d5,a7,by omega,by go_num,a8.o,by rw[a4.out];exact a9.o⟩
     case measure=>simp[intOf];omega
    ·have b0:k=b.length:=by omega
     subst b0;rw[PE] at j;have⟨v,t⟩:=aD f j;clear f j;go_wp2
     go_ret2
     exact⟨i.trans v.o.kw,.inr ⟨h.o,p.o,c,_,_,r,d,D,rfl,i,v.o,(t.o.done (lK h.o) v.o.asc).1,(t.o.done (lK h.o) v.o.asc).2⟩⟩
  ·have p:=Kz P;clear P y;go_wp2
   go_ret2
   exact⟨z,.inl ⟨fun I=>p.o I.2,rfl⟩⟩
 ·have q:(M == 0)=false:=by simpa using x
  go_wp2
  go_ret2
  exact⟨m,.inl ⟨fun I=>x (h.o.unique I.1),rfl⟩⟩
section
variable {B : Nat} {Kf Kc : Nat -> Prop} {W0 : Qy} {Kq : List Qz} {wz W W' : Qy} {bb : Nat} {a : Qx} {cap : Nat} {rd : Qx} {rn rc : Nat} {mb mx : Nat} {ts0 ts : List Zk} {d0 d : Qx} {dc : Nat} {f : Qw -> QA} {ws : Qw -> List Nat}
end
open Go.RowKit Go.Shelf
attribute [local go_sem] Oper.semAt_some
section
variable {Kq : List Qz} {wz w w' : Qy} {bb : Nat} {a : Qx} {cap : Nat} {rd : Qx} {rn rc : Nat} {mb mx : Nat} {ts : List Zk} {d : Qx} {dc : Nat} {f : Qw -> QA} {ws : Qw -> List Nat}
end
section
variable {G : cO} {Kq : List Qz} {wz w w' : Qy} {bb : Nat} {a : Qx} {cap : Nat} {rd : Qx} {rn rc : Nat} {mb mx : Nat} {ts : List Zk} {d : Qx} {dc : Nat} {f : Qw -> QA} {ws : Qw -> List Nat}
end
theorem jR.kept{w wz:Qy}(h:jR w)(k:K_ w wz):jR wz:=fun W b a c l d e f g i=>h W b a c l (k.trans d) e f g i
attribute [local go_sem] Oper.semAt_some
section
variable {G : cO} {Kq : List Qz} {wz w w' : Qy} {bb : Nat} {a : Qx} {cap : Nat} {rd : Qx} {rc : Nat} {mb mx : Nat} {ts : List Zk} {d : Qx} {dc : Nat} {f : Qw -> QA} {ws : Qw -> List Nat}
end
attribute [local go_sem] Oper.semAt_some
variable {w : Qy}
theorem Gc{P:Program}{id:Nat}{d:Array Oper}{Q:Exit->Act->Qy->Prop}{a:Act}(J:Act->Act->Qy->Prop)(h:(Code.region id d true).wp P (fun x b u=>x= .normal/\J a b u) a w)(f:∀b u,J a b u->Q .normal b u):(Code.region id d true).wp P Q a w:=
 wp_mono h fun e b u c=>by
  obtain⟨rfl,c⟩:=c;exact f b u c
def je(w:Qy)(g:Nat):Prop:=∀o s,w.cell? ⟨g,o,none⟩≠some (.string s)
variable {g : Nat}
theorem je.kept{w':Qy}(h:je w g)(b:g<w.heap.size)(k:K_ w w'):je w' g:=fun o s e=>h o s ((k.cell b).symm.trans e)
variable {a : Qx}
theorem Ep{o:Nat}{v:QA}{l:List Qw}(h:Strs w a l)(d:je w g):Strs (w.setCell ⟨g,o,none⟩ v) a l:=by
 intro i e;obtain⟨b,p,rfl,f,c⟩:=h i e;refine⟨b,p,rfl,by rw[size_setCell];exact f, ?_⟩;rw[Pq _ _ _ _ (fun j=>?_)]
 ·exact c
 ·have k:g=b:=congrArg Addr.block j;subst k;exact d _ _ c
theorem vo{o:Nat}{v:QA}{l:List dh}(h:iY w a l)(d:je w g):iY (w.setCell ⟨g,o,none⟩ v) a l:=by
 intro i e;obtain⟨b,p,rfl,f,c⟩:=h i e;refine⟨b,p,rfl,by rw[size_setCell];exact f,fun j u k=>?_⟩;rw[Pq _ _ _ _ (fun m=>?_)]
 ·exact c j u k
 ·have n:g=b:=congrArg Addr.block m;subst n;exact d _ _ (c 0 _ rfl)
theorem Cy{vs:List QA}{l:List Qw}(h:Strs w a l)(d:je w g):Strs (w.setCells g 0 vs) a l:=by
 intro i e;obtain⟨b,p,rfl,f,c⟩:=h i e;refine⟨b,p,rfl,by rw[size_setCells];exact f, ?_⟩;rw[World.cell?_setCells_out g vs 0 w _ (fun j _=>?_)]
 ·exact c
 ·have k:b=g:=j;subst k;exact (d _ _ c).elim
theorem nR{vs:List QA}{l:List dh}(h:iY w a l)(d:je w g):iY (w.setCells g 0 vs) a l:=by
 intro i e;obtain⟨b,p,rfl,f,c⟩:=h i e;refine⟨b,p,rfl,by rw[size_setCells];exact f,fun j u k=>?_⟩;rw[World.cell?_setCells_out g vs 0 w _ (fun m _=>?_)]
 ·exact c j u k
 ·have n:b=g:=m;subst n;exact (d _ _ (c 0 _ rfl)).elim
theorem II{k m n:Int}{f:Qx}{c e0 rl cl:Nat}{t:TypeId}:je (w.alloc (.cells #[.int .i64 k,.slice a rl c,.slice f cl e0,.int .i64 m,.int .i64 n] t)) w.heap.size:=fun o s e=>by
 have d:=X_ w #[.int .i64 k,.slice a rl c,.slice f cl e0,.int .i64 m,.int .i64 n] t
 match o,e with
 | 0,e=>have:=d 0 _ rfl;rw[e] at this;cases this
 | 1,e=>have:=d 1 _ rfl;rw[e] at this;cases this
 | 2,e=>have:=d 2 _ rfl;rw[e] at this;cases this
 | 3,e=>have:=d 3 _ rfl;rw[e] at this;cases this
 | 4,e=>have:=d 4 _ rfl;rw[e] at this;cases this
 | o+5,e=>
  have h:=World.alloc_heap_new w (.cells #[.int .i64 k,.slice a rl c,.slice f cl e0,.int .i64 m,.int .i64 n] t);unfold World.cell? at e;simp only[h] at e;simp at e
theorem IC{b:Nat}{t:TypeId}(a:aL w b t 5)(h:∀o,o<5->∀s,w.cell? ⟨b,o,none⟩≠some (.string s)):je w b:=fun o s e=>by
 by_cases c:o<5
 ·exact h o c s e
 ·obtain⟨f,d,g⟩:=a;unfold World.cell? at e;simp only[d] at e;simp only[Option.isSome_none,Bool.false_eq_true,if_false] at e;have i:=(PK.1 e).1;omega
def MH(Kq:List Qz)(Kj:List Qw)(sl:List Q_)(w w':Qy)(e:Ending):Prop:=
 ∃(o:rD) (a f:Qx) (c e0:Nat),e= .returned (.agg #[.int .i64 o.code,.slice a o.res.length c,.slice f o.chain.length e0,.int .i64 o.aY,.int .i64 o.cost])/\iE Kq Kj sl o/\iY w' a o.res/\Strs w' f o.chain/\K_ w w'
theorem LG(k m n:Int)(a f:Qx)(rl c cl e0:Nat):(#[Value.int .i64 k,Value.slice a rl c,Value.slice f cl e0,Value.int .i64 m,Value.int .i64 n].all (·.oneCell'))=true:=by simp[Value.oneCell']
attribute [local go_sem] Oper.semAt_some
theorem qU{P:Program}{e:Func}{c:Array QA}{w:Qy}{p:Tmp}{a:TypeId}{b:Nat}(v:QA)(d:TypeDesc)(h:e.results= #[.cell p a])
  (f:c.getD p undef= .pointer (some ⟨b,0,none⟩)) (g:w.cell? ⟨b,0,none⟩=some v) (i:P.underlying a=some d) (m:d.isRow=false):(results e c).run P w= .ok v w:=by
 have j:c[p]?.getD undef= .pointer (some ⟨b,0,none⟩):=by simpa using f
 have k:(isAgg a).run P w= .ok false w:=by
  unfold isAgg;rw[Sem.run_bind,run_underlying i w];cases d <;> simp_all
 have l:(loadVar a ⟨b,0,none⟩).run P w= .ok v w:=by simp[loadVar,Sem.run_bind,k,g]
 simp only[results,h];simp[j,asAddr,l]
def AnI(w1:Qy)(c:Nat)(Kq:List Qz)(ts:List Zk)(i:Nat)(W:Qy):Prop:=
 K_ w1 W/\aL W c 4 1/\∀r∈(Qj ts).take i,¬bL (Kk Kq) (Qq (Qj ts)) r
def AnX(w1:Qy)(c:Nat)(Kq:List Qz)(ts:List Zk)(x:Code)(W:Qy):Prop:=
 x= .ret/\K_ w1 W/\aL W c 4 1/\W.cell? ⟨c,0,none⟩=some (.bool true)/\∃r∈Qj ts,bL (Kk Kq) (Qq (Qj ts)) r
theorem AnI.calm{w1:Qy}{c:Nat}{Kq:List Qz}{ts:List Zk}{i B:Nat}(j:w1.heap.size<=c)(m:c<B):Calm B (AnI w1 c Kq ts i):=by
 constructor
 ·rintro W o n ⟨k,a,d⟩;have f:=(K_.refl W).alloc o;exact⟨k.trans f,a.kept f,d⟩
 ·rintro W l o h p q r ⟨k,a,d⟩;have g:But (fun b=>b=l) W (W.putObj l h):=⟨rfl,rfl,rfl,by rw[World.putObj_size];exact OU _,fun b _ e=>World.putObj_heap_other e⟩;exact⟨g.kept k (fun b e=>by rw[e];omega),g.row a (fun (e:c=l)=>by omega),d⟩
theorem AnX.calm{w1:Qy}{c:Nat}{Kq:List Qz}{ts:List Zk}{x:Code}{B:Nat}(m:w1.heap.size<=c)(n:c<B):Calm B (AnX w1 c Kq ts x):=by
 constructor
 ·rintro W o p ⟨b,k,a,d,f⟩;have g:=(K_.refl W).alloc o;exact⟨b,k.trans g,a.kept g,(g.cell a.lt).trans d,f⟩
 ·rintro W l o i q r s ⟨b,k,a,d,f⟩;have j:But (fun h=>h=l) W (W.putObj l i):=⟨rfl,rfl,rfl,by rw[World.putObj_size];exact OU _,fun h _ e=>World.putObj_heap_other e⟩;exact⟨b,j.kept k (fun h e=>by rw[e];omega),j.row a (fun (e:c=l)=>by omega),(jc i (by omega)).trans d,f⟩
section
variable {G : cO} {Kq : List Qz} {wz w w' : Qy} {bb : Nat} {a : Qx} {cap : Nat} {rd : Qx} {rn rc : Nat} {mb mx : Nat} {ts : List Zk} {d : Qx} {dc : Nat} {f : Qw -> QA} {ws : Qw -> List Nat}
theorem BI(J:BM G Kq wz w bb a cap rd rn rc mb mx ts d dc f ws)(K:BS Kq ts ws)(a0:ts.length<=60):
  Calls prog 82 #[.pointer (some ⟨bb,0,none⟩)] w fun e w'=>Says e (∃r∈Qj ts,bL (Kk Kq) (Qq (Qj ts)) r)/\K_ w w':=by
 have⟨q,L⟩:=aD J K;refine (callsIn_wide (n:=9)).1 ?_;refine callsIn_of_wp_marks func82 rfl trivial ?_ rfl;simp only[ntmps82,List.size_toArray,PP,List.length_nil,Nat.reduceAdd,Nat.reduceSub,Array.replicate_succ,Array.replicate_zero,List.push_toArray,List.append_toArray,List.nil_append,List.cons_append]
 gi_wp2_with fail
 obtain⟨l,s⟩:∃l,w.alloc (.cells #[.bool false] 4)=l:=⟨_,rfl⟩;rw[s];have B:K_ w l:=by rw[<-s];exact ak _ _
 have z0:l.heap.size=w.heap.size+1:=by rw[<-s];simp
 have M:Hid (aL l w.heap.size 4 1):=by rw[<-s];exact aL.made w #[.bool false] 4
 have a1:=q.o.row.lt;have N:=(q.o.kept B).c3;refine xM (vw bb d ts.length dc (rX ts) (by omega)) rfl (enters_of func117 (by kernel_rfl) rfl) (GY (by omega)) N (fun _=>rfl)
  (AnI w w.heap.size Kq ts) (AnX w w.heap.size Kq ts) (fun j=>AnI.calm (OU _) (by omega)) (fun _=>AnX.calm (OU _) (by omega))
  ⟨B,M.o,fun r m=>by simp at m⟩
  (fun j=>{tmps:= #[.pointer (some ⟨bb,0,none⟩),undef,.pointer (some ⟨w.heap.size,0,none⟩),.pointer (some ⟨bb,0,none⟩),.func (.func 117) #[.pointer (some ⟨bb,0,none⟩)] #[],.pointer (some ⟨rX ts j,0,none⟩)],defers:=[]}) ?assign (fun j=>Aq (fun g e=>by have:=(q.o.apart e).1;omega)) ?step ?done ?stop
 case assign=>
  intro O j W a2 P
  gi_wp2
  simpa using P
 case step=>
  rintro j W t ⟨k,c,i⟩;have C:(Qj ts).take (j+1)= (Qj ts).take j++ [ts[j].r]:=by
   rw[Pb (by simpa[Qj] using t)];simp[Qj]
  rcases (q.o.kept k).sees L.o t with⟨E,m⟩|⟨Q,m⟩;rotate_left
  ·refine .inr ⟨Q,k,c,fun r F=>?_⟩;rw[C] at F;rcases Pe.1 F with h | h
   ·exact i r h
   ·rw[Pd] at h;rw[h];exact m
  refine .inl ⟨E, ?_⟩;have R:Hid (∃r∈Qj ts,bL (Kk Kq) (Qq (Qj ts)) r):=⟨_,Pv.2 ⟨ts[j],Pf t,rfl⟩,m⟩;clear E m C i c k;clear W;rintro O W _ ⟨k,c,i⟩ a3;obtain⟨⟨_,v⟩,x⟩:=c.row.at (i:=0) (by omega);have S:=c.lt;have T:Hid (KeepsFrom l.heap.size W (W.setCell ⟨w.heap.size,0,none⟩ (.bool true))):=((KeepsOthers.refl W).trans (KeepsOthers.setCell _ _ _)).from _
  have p:Hid (AnX w w.heap.size Kq ts .ret (W.setCell ⟨w.heap.size,0,none⟩ (.bool true))):=⟨rfl,k.setCell (OU _) _,c.set _,bH c.row (by omega) _,R.o⟩;clear c i k
  gi_wp2
  exact⟨T.o,p.o⟩
 case done=>
  rintro D W U ⟨k,c,i⟩ y;have H:(Qj ts).take ts.length=Qj ts:=PG (by simp[Qj]);rw[H] at i;have V:Hid (¬∃r∈Qj ts,bL (Kk Kq) (Qq (Qj ts)) r):=fun ⟨r,v,x⟩=>i r v x
  obtain⟨⟨_,v⟩,x⟩:=c.row.at (i:=0) (by omega);have S:=c.lt;have X:w.heap.size<D:=by omega
  have a4:=Kz c;have p:Hid (K_ w ((W.setCell ⟨w.heap.size,0,none⟩ (.bool false)).putObj D (.deferred none))):=by
   have z:But (fun b=>b=D) (W.setCell ⟨w.heap.size,0,none⟩ (.bool false)) ((W.setCell ⟨w.heap.size,0,none⟩ (.bool false)).putObj D (.deferred none)):=⟨rfl,rfl,rfl,by rw[World.putObj_size];exact OU _,fun b _ e=>World.putObj_heap_other e⟩;exact z.kept (k.setCell (OU _) _) (fun b e=>by rw[e];omega)
  have Y:(W.setCell ⟨w.heap.size,0,none⟩ (.bool false)).heap[D]? =some (.deferred (some [])):=(Below.heap_setCell _ _ _ _ (by show D≠w.heap.size;omega)).trans y;have A:Hid (((W.setCell ⟨w.heap.size,0,none⟩ (.bool false)).putObj D (.deferred none)).cell? ⟨w.heap.size,0,none⟩=some (.bool false)):=(jc _ (by omega)).trans (bH c.row (by omega) _);clear c i H k
  gi_wp2
  exact⟨by simp,.inl ⟨_,_,rfl,run_takeDeferred Y,_,qU (b:=w.heap.size) (.bool false) _ results82 rfl A.o underlying4 rfl,Says.no V.o,p.o⟩⟩
 case stop=>
  rintro D a5 W U ⟨rfl,k,c,i,I⟩ y;have X:w.heap.size<D:=by omega
  have p:Hid (K_ w (W.putObj D (.deferred none))):=by
   have z:But (fun b=>b=D) W (W.putObj D (.deferred none)):=⟨rfl,rfl,rfl,by rw[World.putObj_size];exact OU _,fun b _ e=>World.putObj_heap_other e⟩;exact z.kept k (fun b e=>by rw[e];omega)
  have A:Hid ((W.putObj D (.deferred none)).cell? ⟨w.heap.size,0,none⟩=some (.bool true)):=(jc _ (by omega)).trans i;have Z:=Kz I;clear c i I k
  gi_wp2
  exact⟨by simp,.inl ⟨_,_,rfl,run_takeDeferred y,_,qU (b:=w.heap.size) (.bool true) _ results82 rfl A.o underlying4 rfl,Says.yes Z.o,p.o⟩⟩
end
theorem Tryz.GH(w:Qy):(zeroValue 25).run prog w= .ok (.slice none 0 0) w:=by kernel_rfl
structure mI (w:Qy) (base mo M:Nat) (g:Qw->QA) (ol:Qw->List Qw):Prop where
 map:∃N D,N<=M/\w.ownsMap prog 9 asIs mo N D/\(∀s:Qw,s.size<=maxLen->D.atKey (bT s) (.held (.slice none 0 0))= .held (g s))/\∀s:Qw,Maps.has D (bT s)=true↔ol s≠[]
 row:∀s,w.ownsRow base 9 1 (g s) (ol s).length ((ol s).map Value.string)
 sep:∀s s',s≠s'->∀x,(g s).ownBlock=some x->(g s').ownBlock≠some x
 low:base<=mo
section
variable {w w1 w' : Qy} {base mo M : Nat} {g : Qw -> QA} {ol : Qw -> List Qw}
theorem mI.look(h:mI w base mo M g ol){s:Qw}(b:s.size<=maxLen):(Instr.lookup 157 (.map (some mo)) (.string s) false).run prog w= .ok (g s) w:=by
 obtain⟨N,D,_,c,d⟩:=h.map;obtain⟨v,j,e,a⟩:=c.lookup Tryz.keyed underlying157 (Tryz.GH w) (zd:= .held (.slice none 0 0)) (zp:=[]) rfl (WideMaps.keyOf_string_mk underlying9 b);have f:=d.1 s b;unfold asIs at a;simp only[PN,Prod.mk.injEq] at a;have i:(DataW.held v:DataW QA)= .held (g s):=a.1.trans f;cases i;exact e
theorem mI.but{S:Nat->Prop}(h:mI w base mo M g ol)(k:But S w w')(a:¬S mo)(h2:∀s b,(g s).ownBlock=some b->¬S b):mI w' base mo M g ol:=by
 obtain⟨N,D,c,d,e⟩:=h.map;exact⟨⟨N,D,c,iB d k a,e⟩,fun s=>k.owns (h.row s) (h2 s),h.sep,h.low⟩
theorem mI.kept(h:mI w base mo M g ol)(k:K_ w w'):mI w' base mo M g ol:=
 h.but (S:=fun _=>False) (But.aj k) id (fun _ _ _=>id)
theorem mI.rO(h:mI w base mo M g ol){s:Qw}(b:s.size<=maxLen)(f:w.grownBy w1 (g s).ownBlock):(Instr.lookup 157 (.map (some mo)) (.string s) false).run prog w1= .ok (g s) w1:=by
 obtain⟨N,D,_,c,i⟩:=h.map;have j:w1.ownsMap prog 9 asIs mo N D:=iB (S:=fun d=>(g s).ownBlock=some d) c (But.aQ f (fun d e=>e)) (fun e=>ib c (Y_ (h.row s) e) rfl);obtain⟨v,m,k,a⟩:=j.lookup Tryz.keyed underlying157 (Tryz.GH w1) (zd:= .held (.slice none 0 0)) (zp:=[]) rfl (WideMaps.keyOf_string_mk underlying9 b);have e:=i.1 s b;unfold asIs at a;simp only[PN,Prod.mk.injEq] at a;have l:(DataW.held v:DataW QA)= .held (g s):=a.1.trans e;cases l;exact k
theorem mI.put(h:mI w base mo M g ol){s:Qw}(G:s.size<=maxLen){x:Qw}{f:QA}(v:w1.ownsRow base 9 1 f ((ol s).length+1) ((ol s).map Value.string++ [.string x]))(H:w.grownBy w1 (g s).ownBlock)(z:∀b,f.ownBlock=some b->(g s).ownBlock=some b\/w.heap.size<=b)(R:M<=1000000):
  ∃w2,(Instr.mapUpdate 157 (.map (some mo)) (.string s) f).run prog w1= .ok () w2/\mI w2 base mo (M+1) (fun n=>if n=s then f else g n) (fun n=>if n=s then ol s++ [x] else ol n)/\But (fun b=>(g s).ownBlock=some b\/b=mo) w w2:=by
 obtain⟨N,I,S,l,A⟩:=h.map;have B:But (fun b=>(g s).ownBlock=some b) w w1:=But.aQ H (fun b e=>e);have C:=iB l B (fun e=>ib l (Y_ (h.row s) e) rfl);obtain⟨w2,J,K,D⟩:=C.update Tryz.keyed underlying157 (by unfold maxLen;omega) (WideMaps.keyOf_string_mk underlying9 G) (d:= .held f) (ps:=[]) rfl;have E:But (fun b=>(g s).ownBlock=some b\/b=mo) w w2:=(B.mono (fun b _ e=>.inl e)).trans (But.aQ D (fun b e=>.inr (PW e).symm));have L:But (fun b=>b=mo) w1 w2:=But.aQ D (fun b e=>(PW e).symm);have O:∀{b:Nat} {t:TypeId},bZ w1 b t->¬b=mo:=fun P e=>ib C P e
 have F:Maps.IsMap I:=by obtain⟨T,U,_,_,_,rfl⟩:=l;exact⟨_,rfl⟩
 refine⟨w2,J,⟨⟨N+1,_,by omega,K,fun n Q=>?_,fun n=>?_⟩,fun n=>?_,fun n m r y i a=>?_,h.low⟩,E⟩
 ·by_cases e:n=s
  ·rw[Qg e,e];exact Maps.atKey_put_same (k:=bT s) F (by show WideAt.IsKeyLit (.string _);exact trivial) _ _
  ·rw[Qh e,<-A.1 n Q];exact Maps.atKey_put_other (gH e) _ _
 ·by_cases e:n=s
  ·rw[Qg e,e];exact⟨fun _=>by simp,fun _=>Maps.has_put_same (k:=bT s) F (by show WideAt.IsKeyLit (.string _);exact trivial) (.held f)⟩
  ·rw[Qh e,<-A.2 n];exact Eq.to_iff (congrArg (· =true) (Maps.has_put_other (gH e) _))
 ·by_cases e:n=s
  ·simp only[Qg e];have p:(ol s++ [x]).length= (ol s).length+1:=by simp
   have c:(ol s++ [x]).map Value.string= (ol s).map Value.string++ [.string x]:=by simp
   rw[p,c];exact L.owns v (fun b e=>O (Y_ v e))
  ·simp only[Qh e];refine E.owns (h.row n) (fun b p c=>?_);rcases c with c | c
   ·exact h.sep n s e b p c
   ·exact ib l (Y_ (h.row n) p) c
 ·by_cases e:n=s
  ·rw[Qg e] at i;rw[Qh (fun j=>r (e.trans j.symm))] at a;rcases z y i with q | q
   ·exact h.sep s m (fun j=>r (e.trans j)) y q a
   ·have:=((h.row m).lt y a).2;omega
  ·rw[Qh e] at i;by_cases j:m=s
   ·rw[Qg j] at a;rcases z y a with q|q
    ·exact h.sep n s e y i q
    ·have:=((h.row n).lt y i).2;omega
   ·rw[Qh j] at a;exact h.sep n m r y i a
theorem mI.made{base:Nat}(b:base<=w.heap.size):mI (w.alloc (.map #[] 0)) base w.heap.size 0 (fun _=>.slice none 0 0) (fun _=>[]):=
 ⟨⟨0,.map [],OU _,World.ownsMap_made w prog 9 asIs,fun s _=>rfl,fun s=>by simp[Maps.has]⟩,fun s=>PU _ _ _ _,fun s d _ x h=>(by cases h),b⟩
end
attribute [local go_sem] Oper.semAt_some
def Kh(B:Nat)(d:Qx)(tx:Nat->Qw)(i:Nat)(W:Qy):Prop:=∃b o,d=some ⟨b,o,none⟩/\b<B/\W.cell? ⟨b,o+i,none⟩=some (.string (tx i))
theorem Bo(B a:Nat)(d:Qx)(dc n:Nat)(b:Nat->Qw)(p:n<=1048576):
  KH prog 185 #[.pointer (some ⟨a,0,none⟩)] (fun i=>#[.string (b i)]) (Kh B d b) (fun _ _=>False) n (fun W=>W.cell? ⟨a,0,none⟩=some (.slice d n dc)):=by
 intro y J q W r c f;refine callsIn_of_wp func185 rfl trivial ?_ rfl;simp only[ntmps185,List.size_toArray,PP,List.length_nil,Nat.reduceAdd,Nat.reduceSub,Array.replicate_succ,Array.replicate_zero,List.push_toArray,List.append_toArray,List.nil_append,List.cons_append];have g:=Kz c;clear c
 gi_wp2
 gi_loopw [7] (fun x wr=>∃i:Nat,i<=n/\x= .int .i64 i/\J i wr) (fun x _=>n-(intOf x).toNat)
 case atStart=>exact⟨0,OW _,rfl,f⟩
 case round=>
  obtain⟨i,s,rfl,e⟩:=hrel;by_cases j:i<n
  ·rcases g.o i wr j e with⟨⟨t,o,rfl,_,v⟩,w,z,A,C,D,k⟩|⟨h,_⟩
   ·gi_wp2
    refine k.mono ?_;rintro E F (⟨rfl,l⟩|⟨rfl,m⟩)
    ·gi_wp2
     go_roundw
     case rel=>exact⟨i+1,by omega,by go_num,l⟩
     case measure=>simp[intOf];omega
    ·gi_wp2
     refine bodyPost_ret (results_none rfl _ _ _) rfl ?_;exact⟨⟨_,rfl⟩,.inr m⟩
   ·exact h.elim
  ·gi_wp2
   go_end0
   have:i=n:=by omega
   subst this;exact⟨⟨_,rfl⟩,.inl e⟩
def AqI(w1:Qy)(c:Nat)(l:List Qw)(i:Nat)(W:Qy):Prop:=
 K_ w1 W/\c<W.heap.size/\∃v:QA,W.cell? ⟨c,0,none⟩=some v/\W.frozen? ⟨c,0,none⟩=false/\W.ownsRow (c+1) 9 1 v (l.take i).length ((l.take i).map Value.string)
theorem AqI.calm{w1:Qy}{c:Nat}{l:List Qw}{i B:Nat}(r:w1.heap.size<=c)(s:c<B):Calm B (AqI w1 c l i):=by
 constructor
 ·rintro W o t ⟨k,a,v,g,h,d⟩;have f:=(K_.refl W).alloc o;exact⟨k.trans f,by rw[PL];omega,v,(f.cell a).trans g,(f.rules.2 c 0 a).trans h,(But.aj (S:=fun _=>False) f).owns d (fun _ _=>id)⟩
 ·rintro W y o j w n p ⟨k,a,v,g,h,d⟩;have m:But (fun b=>b=y) W (W.putObj y j):=⟨rfl,rfl,rfl,by rw[World.putObj_size];exact OU _,fun b _ e=>World.putObj_heap_other e⟩;refine⟨m.kept k (fun b e=>by rw[e];omega),by rw[World.putObj_size];exact a,v,(jc j (by omega)).trans g,(FD j (by omega)).trans h,m.owns d (fun b q e=>?_)⟩;have:=lH (Y_ d q) (by rw[e];exact n);rw[p] at this;cases this
theorem ut{B:Nat}{v:QA}{c o:Nat}(g:c<B):Calm B (fun W=>W.cell? ⟨c,o,none⟩=some v):=by
 constructor
 ·intro W d h a;obtain⟨i,e,_⟩:=cells_of_cell a;exact (((K_.refl W).alloc d).cell (aV e)).trans a
 ·intro W y d f k l m a;exact (jc f (by omega)).trans a
theorem E_{B:Nat}{d:Qx}{j:Nat->Qw}{i C:Nat}(h:B<=C):Calm C (Kh B d j i):=by
 constructor
 ·rintro W c k ⟨b,o,rfl,a,f⟩;exact⟨b,o,rfl,a,(ut (OV a h)).1 W c k f⟩
 ·rintro W y c m n p q ⟨b,o,rfl,a,f⟩;exact⟨b,o,rfl,a,(ut (OV a h)).2 W y c m n p q f⟩
theorem CQ :∃ic,prog.info? 9=some ic/\ic.zero=some (.string ByteArray.empty)/\ic.size=1/\ic.bytes=16:=info_parts Tryz.wP
theorem zo(w:Qy)(q:Nat)(d:Qx)(dc:Nat)(l:List Qw)(hn:l.length<=1048576)(a8:q<w.heap.size)(hc:w.cell? ⟨q,0,none⟩=some (.slice d l.length dc))(hS:Strs w d l):
  Calls prog 203 #[.slice none 0 0,.func (.func 185) #[] #[.pointer (some ⟨q,0,none⟩)]] w fun e w'=>∃v,e= .returned v/\w'.ownsRow w.heap.size 9 1 v l.length (l.map Value.string)/\K_ w w':=by
 refine (callsIn_wide (n:=9)).1 ?_;refine callsIn_of_wp_marks func203 rfl trivial ?_ rfl;simp only[ntmps203,List.size_toArray,PP,List.length_nil,Nat.reduceAdd,Nat.reduceSub,Array.replicate_succ,Array.replicate_zero,List.push_toArray,List.append_toArray,List.nil_append,List.cons_append]
 gi_wp2_with fail
 obtain⟨r,z⟩:∃r,w.alloc (.cells #[.slice none 0 0] 25)=r:=⟨_,rfl⟩;rw[z];have Y:K_ w r:=by rw[<-z];exact ak _ _
 have z0:r.heap.size=w.heap.size+1:=by rw[<-z];simp
 obtain⟨Z,a0,_⟩:=Es (w:=w) (v:= .slice none 0 0) (t:=25) (w1:=r) (by rw[z];exact K_.refl _);have E:=(Y.cell a8).trans hc;obtain⟨j,Q⟩:∃j:Nat->Qw,∀i,j i=l.getD i ByteArray.empty:=⟨_,fun _=>rfl⟩;have a9:Hid (∀i W,i<l.length->K_ w W->Kh w.heap.size d j i W):=fun i W A a1=>by
  obtain⟨b,o,e,F,b0⟩:=hS i A;exact⟨b,o,e,F,by rw[Q];exact (a1.cell F).trans b0⟩
 have b1:=Kz Q;clear Q;refine DX (Bo w.heap.size q d dc l.length j hn) rfl (enters_of func185 (by kernel_rfl) rfl) (ut (by omega)) E (fun _=>rfl)
  (AqI w w.heap.size l) (fun _ _=>False) (fun i=>AqI.calm (OU _) (by omega)) (fun _=>xJ _)
  ⟨Y,by omega,.slice none 0 0,Z,a0,by rw[List.take_zero];exact PU _ _ _ _⟩
  (fun i=>{tmps:= #[.slice none 0 0,.func (.func 185) #[] #[.pointer (some ⟨q,0,none⟩)],.pointer (some ⟨w.heap.size,0,none⟩),undef,.slice none 0 0,.string (j i),.func (.func 185) #[] #[.pointer (some ⟨q,0,none⟩)],.string (j i),undef,undef,undef,undef,undef],defers:=[]}) ?assign ?calm ?step ?done ?stop
 case assign=>
  intro b2 i W a1 hK
  gi_wp2
  exact hK
 case calm=>exact fun i=>E_ (by omega)
 case stop=>
  intro D c W _ b3 _;exact b3.elim
 case step=>
  rintro i W A ⟨k,s,v,B,G,g⟩;refine .inl ⟨a9.o i W A k, ?_⟩;clear g G B v s k;clear W;rintro b2 W _ ⟨k,s,v,B,G,g⟩ c6;obtain⟨H,I,rfl⟩:=aG g;obtain⟨f,J⟩:=ag (l.take i);have c7:f.length<=1048576:=by rw[J,Pt];omega
  rw[<-J] at g B;obtain⟨h,R⟩:=ag (j i);rw[<-R];have b4:Hid (l.take (i+1)=f++ [h]):=by
   show l.take (i+1)=f++ [h];rw[Pb A,J,R,b1.o];simp[List.getD,A]
  have H3:=Kz g;clear g Z a0 E z R J;obtain⟨ic,E,b5,b6,b7⟩:=CQ;have b8:w.heap.size+1<=W.heap.size:=by omega
  obtain⟨V,x⟩:=ag (W.alloc (.cells #[.string h] 9));have K:K_ W V:=by rw[x];exact ak _ _
  have L:=Kz K;have y:=Kz ((But.aj (S:=fun _=>False) K).owns H3.o (fun _ _=>id));have a2:w.heap.size+1<=V.heap.size:=OX b8 K.size;have a3:Hid (∀M u,([.string h]:List QA)[M]? =some u->V.cell? ((⟨W.heap.size,0,none⟩:Addr).add M)=some u):=fun M u N=>by rw[PQ,x];exact X_ W #[.string h] 9 M u N
  have b9:Hid (∀u∈([.string h]:List QA),u.oneCell'=true):=fun u N=>by simp only[PS,PT,or_false] at N;subst N;rfl
  have c0:Hid (KeepsOthers W V):=by rw[x];exact KeepsOthers.alloc _ _
  rw[x] at y a3 a2;have HV:=Kz x;clear K x
  gi_wp2_with (gi_at_builtin;refine wpListIn_append_own _ rfl (.tmp 8) (.tmp 10) 25 rfl (w.heap.size+1) 9 ic _ 1 16 underlying25 E b5 b6 b7 rfl (by decide) (.slice H f.length I) f.length (f.map Value.string) rfl y.o ⟨W.heap.size,0,none⟩ 1 1 [.string h] rfl rfl a3.o b9.o (by unfold maxLen;omega) (by omega) a2 ?_;intro v' m T O _;rw[<-HV.o] at O y;have P:∀b,(Value.slice H f.length I).ownBlock=some b->w.heap.size+1<=b:=fun b e=>(y.o.lt b e).1;have C:But (fun b=>(Value.slice H f.length I).ownBlock=some b) V m:=But.aQ O (fun b e=>e);have U:w.heap.size<V.heap.size:=OV s L.o.size;have s9:m.cell? ⟨w.heap.size,0,none⟩=some (.slice H f.length I):=(C.cell U (fun e=>by have:=P _ e;omega)).trans ((L.o.cell s).trans B);have f9:m.frozen? ⟨w.heap.size,0,none⟩=false:=(World.frozen?_of_block (w:=V) (a:=⟨w.heap.size,0,none⟩) (C.block w.heap.size U (fun e=>by have:=P _ e;omega))).trans ((L.o.rules.2 _ _ s).trans G);have z9:w.heap.size<m.heap.size:=OV U C.size;have c1:=Kz (C.kept (k.trans L.o) (fun b e=>by have:=P b e;omega));have c2:=Kz (c0.o.trans (KeepsOthers.of_grownBy O (fun b o e ho=>lH (Y_ y.o e) ho)));have c3:=Kz T;obtain⟨a4,a5,rfl⟩:=aG T;clear T O C P HV y)
  have c4:Hid (KeepsFrom r.heap.size W (m.setCell ⟨w.heap.size,0,none⟩ (.slice a4 (f.length+1) a5))):=(c2.o.trans (KeepsOthers.setCell _ _ _)).from _
  refine⟨c4.o,c1.out.setCell (OU _) _,by rw[size_setCell];exact z9,_,Qb _ _ _ s9,by rw[World.frozen?_setCell];exact f9, ?_⟩;have HO:m.ownsRow (w.heap.size+1) 9 1 (.slice a4 (f.length+1) a5) (f++ [h]).length ((f++ [h]).map Value.string):=by rw[PM,Qm];exact c3.o
  rw[b4.o];exact (But.set (S:=fun b=>b=w.heap.size) (But.aj (K_.refl m)) (p:=⟨w.heap.size,0,none⟩) rfl _).owns HO (fun b e e2=>by have:=(HO.lt b e).1;omega)
 case done=>
  rintro D W hD ⟨k,s,v,B,G,g⟩ a6;rw[PE] at g;have c5:w.heap.size<=D:=by omega
  have X:But (fun b=>b=D) W (W.putObj D (.deferred none)):=⟨rfl,rfl,rfl,by rw[World.putObj_size];exact OU _,fun b _ e=>World.putObj_heap_other e⟩;have a7:Hid (K_ w (W.putObj D (.deferred none))/\(W.putObj D (.deferred none)).ownsRow w.heap.size 9 1 v l.length (l.map Value.string)):=by
   refine⟨X.kept k (fun b e=>by rw[e];exact c5),df (X.owns g (fun b F e=>?_)) (by omega)⟩;have:=lH (Y_ g F) (by rw[e];exact a6);cases this
  clear g X
  gi_wp2
  exact⟨by simp,.inl ⟨_,_,rfl,run_takeDeferred a6,_,results_tmp rfl _ _ _,v,rfl,a7.o.2,a7.o.1⟩⟩
theorem Eb(w:Qy)(a:Nat)(d:Qx)(dc:Nat)(l:List Qw)(c:l.length<=1048576)(f:a<w.heap.size)(g:w.cell? ⟨a,0,none⟩=some (.slice d l.length dc))(h:Strs w d l):
  Calls prog 182 #[.func (.func 185) #[] #[.pointer (some ⟨a,0,none⟩)]] w fun e w'=>∃v,e= .returned v/\w'.ownsRow w.heap.size 9 1 v l.length (l.map Value.string)/\K_ w w':=by
 go_enter func182,ntmps182
 go_wp2_with fail
 refine (zo w a d dc l c f g h).mono ?_;rintro e k ⟨v,rfl,b,i⟩;have j:=Kz b;clear b;go_wp2
 go_ret
 exact⟨v,rfl,j.o,i⟩
theorem FZ(w:Qy)(d:Qx)(n dc:Nat):
  Calls prog 163 #[.slice d n dc] w fun e w'=>e= .returned (.func (.func 185) #[] #[.pointer (some ⟨w.heap.size,0,none⟩)])/\w'=w.alloc (.cells #[.slice d n dc] 25):=by
 go_enter func163,ntmps163
 go_wp2
 go_ret
 exact⟨rfl,rfl⟩
open Go.RowKit Go.Sort
def wH(l ns:List Qw):Prop:=ns.Perm l/\ns.Pairwise fun a b=>¬aH b a
theorem wH.asc{l b:List Qw}(h:wH l b)(d:l.Nodup):oN b/\∀s,s∈b↔s∈l:=by
 refine⟨?_,fun s=>h.1.mem_iff⟩;have e:b.Nodup:=h.1.nodup_iff.2 d;unfold oN;exact (h.2.and e).imp fun {a f} c=>by
  rcases b_ a f with g|g|g
  ·exact g
  ·exact Qi g c.2
  ·exact Qi g c.1
theorem xe(l:List Qw):wH l (((l.map fun s=>s.data.toList).mergeSort fun x y=>decide (x<=y)).map fun x=>(⟨x.toArray⟩:Qw)):=by
 constructor
 ·have h:=(List.mergeSort_perm (l.map fun s=>s.data.toList) (fun x y=>decide (x<=y))).map (fun x:List UInt8=>(⟨x.toArray⟩:Qw));rw[List.map_map] at h;have i:((fun x:List UInt8=>(⟨x.toArray⟩:Qw)) ∘ fun s:Qw=>s.data.toList)=id:=by
   funext s
   simp
  rw[i,List.map_id] at h;exact h
 ·rw[List.pairwise_map];have h:=List.pairwise_mergeSort (le:=fun x y:List UInt8=>decide (x<=y)) (fun a b c d e=>by
   simp only[Qp] at d e⊢;exact List.le_trans d e) (fun a b=>by
   simp only[Bool.or_eq_true,Qp];exact List.le_total a b) (l.map fun s=>s.data.toList)
  refine h.imp fun {a b} f=>?_
  simp only[Qp] at f;unfold aH;rw[bytesLess_eq];simp only[Qp];have g:∀x:List UInt8,(⟨x.toArray⟩:Qw).toList=x:=fun x=>by simp[ByteArray.toList_eq]
  rw[g,g];exact List.not_lt.2 f
theorem IE(l:List Qw):(l.map fun s=>s.data.toList).map encStr=l.map Value.string:=by
 rw[List.map_map];apply List.map_congr_left;intro s _;simp[encStr]
theorem Ga(w:Qy)(h:Nat)(d:Qx)(dc:Nat)(l:List Qw)(I:l.length<=1048576)(J:h<w.heap.size)(K:w.cell? ⟨h,0,none⟩=some (.slice d l.length dc))(L:Strs w d l):
  Calls prog 161 #[.func (.func 185) #[] #[.pointer (some ⟨h,0,none⟩)]] w fun e w'=>∃v ns,e= .returned v/\w'.ownsRow w.heap.size 9 1 v ns.length (ns.map Value.string)/\wH l ns/\K_ w w':=by
 go_enter func161,ntmps161
 go_wp2_with fail
 refine (Eb w h d dc l I J K L).mono ?_;rintro e b ⟨v,rfl,i,s⟩;have X:=Kz i;rcases i.2 with⟨rfl,M⟩|⟨g,t,Y,rfl,z,j,N,A,B,C⟩
 ·clear i;go_wp2_with fail
  refine (Tryz.slices_Sort_string_none none 0 b).mono ?_;rintro e D ⟨rfl,c⟩;rw[c];clear c D;go_wp2
  go_ret
  have O:l=[]:=Pk.1 M;refine⟨_,[],rfl,PU _ _ _ _,by rw[O];exact⟨List.Perm.refl _,List.Pairwise.nil⟩,s⟩
 ·obtain⟨a,k⟩:=ag (l.map fun P=>P.data.toList);have m:a.length=l.length:=by rw[k];simp
  have E:Holds encStr b g 0 a.toArray:=holds_of_block j (by rw[m,k,IE];simpa using C);have F:=Kz (Tryz.slices_Sort_string g 0 t a b E (aV j) (by omega));have Q:Hid (∀n f,b.grownBy (grow (putRow encStr (Sort.ahead b n) g 0 (a.mergeSort fun x y=>decide (x<=y)).toArray) f) (some g)/\(grow (putRow encStr (Sort.ahead b n) g 0 (a.mergeSort fun x y=>decide (x<=y)).toArray) f).ownsRow w.heap.size 9 1 (.slice (some ⟨g,0,none⟩) a.length t) a.length ((a.mergeSort fun x y=>decide (x<=y)).map encStr)):=fun n f=>⟨grownBy_sorted _,ownsRow_sorted (by simp) z j (by omega) A (by simpa using B)⟩
  rw[m] at F;have⟨R,G⟩:=aD k m;clear i C B A N j E k m;go_wp2_with fail
  refine F.o.mono ?_;rintro e D ⟨rfl,n,f,c⟩;obtain⟨q,p⟩:=Q.o n f;rw[<-c] at q p;rw[G.o] at p;have⟨T,U⟩:=aD q p;clear q p c;go_wp2
  go_ret
  have H:=xe l;rw[<-R.o] at H;have V:((a.mergeSort fun x y=>decide (x<=y)).map fun x=>(⟨x.toArray⟩:Qw)).length=l.length:=by simp[G.o]
  have W:((a.mergeSort fun x y=>decide (x<=y)).map fun x=>(⟨x.toArray⟩:Qw)).map Value.string= (a.mergeSort fun x y=>decide (x<=y)).map encStr:=by rw[List.map_map];rfl
  refine⟨_,_,rfl,by rw[V,W];exact U.o,H, ?_⟩;exact (But.aQ (S:=fun r=>r=g) T.o (fun r e=>(PW e).symm)).kept s (fun r e=>by rw[e];exact z)
theorem BK{l:List Qz}{n:Nat}(h:eX l<=n):l.length<=n/\∀s∈l,s.steps.length<=n/\∀x∈s.steps,x.asks.length<=n/\x.cases.length<=n:=by
 unfold eX at h;refine⟨by omega,fun s b=>?_⟩;have d:=La eQ b;have e:eQ s=s.name.size+fU s.steps:=rfl;have c:=DN (l:=s.steps) (n:=n) (by omega);exact c
