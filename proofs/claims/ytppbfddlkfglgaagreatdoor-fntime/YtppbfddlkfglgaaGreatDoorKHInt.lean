import Derived.Test.YtppbfddlkfglgaaGreatDoorKXWantZ
set_option maxRecDepth 100000
set_option maxHeartbeats 25600000
namespace Go.Proofs.YtppbfddlkfglgaaGreatDoor
open Go.RowKit Go.Proofs.Tryz
theorem Tryz.OE :(prog.info? 123).map (λi=>(i.zero,i.size,i.bytes))=some (some (.pointer none),1,8):=C9
variable {fid:Nat}
section
variable {α:Type}{loc:α -> Nat}{b o B n cap:Nat}{fn:QY}{f:Nat -> α}{a:QW}
theorem aO.uf{w:QX}{g:Nat}(h:aO w b o B 123 1 (λx=>[(.h (loc (x)))]) fn f n (some ⟨g,0,none⟩) cap){i:Nat}(c:i<n):w.cell? ⟨g,i,none⟩=some ((.h (loc (f i)))):=by
 have:=h.at c (j:=0) A7;rw[Nat.mul_one] at this;exact this
theorem xW(w:QX)(h:aO w b o B 123 1 (λx=>[(.h (loc (x)))]) fn f n a cap):
  Calls prog 93 #[.pointer (some ⟨b,o,none⟩)] w λe w'=>e=.returned (.bool (decide (n=0)))/\w'=w:=by
 have c:=h.c0;have d:((n:Int) == 0)=decide (n=0):=by
  by_cases e:n=0
  .subst e;rfl
  .rw[decide_eq_false e];simpa using e
 go_enter func93,ntmps93
 go_wp2
 go_ret
 exact⟨rfl,rfl⟩
theorem FY(w:QX)(h:aO w b o B 123 1 (λx=>[(.h (loc (x)))]) fn f n a cap)(c:0<n):
  Calls prog 124 #[.pointer (some ⟨b,o,none⟩)] w λe w'=>e=.returned ((.h (loc (f 0))))/\w'=w:=by
 obtain⟨g,rfl,d,i,j⟩:=h.pos c;have k:=h.c0;have l:=h.uf c;have m:(0:Int)<(n:Int):=A7;go_enter func124,ntmps124
 go_wp2
 go_ret
 exact⟨rfl,rfl⟩
theorem uN(w:QX)(h:aO w b o B 123 1 (λx=>[(.h (loc (x)))]) fn f n a cap){i j:Nat}(m:i<n)(r:j<n)(F:n<=1000000):
  Calls prog 120 #[.pointer (some ⟨b,o,none⟩),.b (i:Int),.b (j:Int)] w λe w'=>e=.returned (.tuple #[])/\aO w' b o B 123 1 (λx=>[(.h (loc (x)))]) fn (swp f i j) n a cap/\But (λx=>(Value.slice a n cap).ownBlock=some x) w w':=by
 obtain⟨g,rfl,y,G,H⟩:=h.pos A7;have C:Hid (∀u,K_ w u->(u.cell? ⟨b,o,none⟩=some (.c g n cap)/\u.cell? ⟨g,i,none⟩=some ((.h (loc (f i))))/\u.cell? ⟨g,j,none⟩=some ((.h (loc (f j)))))):=λu k=>⟨(k.cell h.lt).trans h.c0,(k.cell y).trans (h.uf m),(k.cell y).trans (h.uf r)⟩
 have I:(i:Int)<(n:Int):=A7;have J:(j:Int)<(n:Int):=A7;obtain⟨z,s⟩:=aj w.drew;have t:K_ w z:=by rw[s];exact (a_ w)
 have D:=Kz s;clear s;have d:=h.kept t;have L:=d.row.frozenAt i;have M:=d.uf m;obtain⟨w1,q⟩:=aj (z.setCell ⟨g,i,none⟩ ((.h (loc (f j)))));have v:aO w1 b o B 123 1 (λx=>[(.h (loc (x)))]) fn (λk=>if k=i then f j else f k) n (some ⟨g,0,none⟩) cap:=by have:=d.set m (f j);rw[Nat.mul_one] at this;rw[q];exact this
 have N:=v.row.frozenAt j;have O:=v.uf r;have A:Hid (aO (w1.setCell ⟨g,j,none⟩ ((.h (loc (f i))))) b o B 123 1 (λx=>[(.h (loc (x)))]) fn (swp f i j) n (some ⟨g,0,none⟩) cap/\But (λx=>(Value.slice (some ⟨g,0,none⟩) n cap).ownBlock=some x) w (w1.setCell ⟨g,j,none⟩ ((.h (loc (f i)))))):=by
  have:=d.swap m r;simp only[Nat.mul_one] at this;rw[q];exact⟨this,((But.ak (S:=λx=>(Value.slice (some ⟨g,0,none⟩) n cap).ownBlock=some x) t).set (p:=⟨g,i,none⟩) rfl _).set (p:=⟨g,j,none⟩) rfl _⟩
 have E:=Kz q;clear h d v t q;go_enter func120,ntmps120
 go_wp2
 refine UpZ.region C9 (λu=>u.cell? ⟨b,o,none⟩=some (.c g n cap)/\u.cell? ⟨g,i,none⟩=some ((.h (loc (f i))))/\u.cell? ⟨g,j,none⟩=some ((.h (loc (f j))))) [25,27] (C.o _ (a_ w)) λc=>?_;rw[<-D.o] at c⊢;refine UpZ.tk 0 c ?_;refine UpZ.tk 1 c ?_;refine UpZ.tk 2 c ?_;refine UpZ.tk 3 c ?_;refine UpZ.tk 4 c ?_;refine UpZ.tk 5 c ?_;refine UpZ.tk 6 c ?_;refine UpZ.tk 7 c ?_;refine UpZ.tk 8 c ?_;refine UpZ.pu 9 ?_;refine UpZ.tk 10 c ?_;refine UpZ.tk 11 c ?_;refine UpZ.tk 12 c ?_;refine UpZ.tk 13 c ?_;refine UpZ.tk 14 c ?_;refine UpZ.tk 15 c ?_;refine UpZ.tk 16 c ?_;refine UpZ.tk 17 c ?_;refine UpZ.tk 18 c ?_;refine UpZ.tk 19 c ?_;refine UpZ.tk 20 c ?_;refine UpZ.tk 21 c ?_;refine UpZ.tk 22 c ?_;refine UpZ.tk 23 c ?_;refine UpZ.tk 24 c ?_;refine UpZ.nx 25 λK l=>?_;rw[QI D8];go_simp
 rw[<-E.o];refine l.out _ _ (λh=>QK A8 h) ?_;clear l K;try simp only[upP]
 refine UpZ.pu 26 ?_;refine UpZ.nx 27 λK l=>?_;rw[QI D8];go_simp
 refine l.out _ _ (λh=>QK A8 h) ?_;clear l K;try simp only[upP]
 refine UpZ.dn ?_;go_wp2
 go_end0
 exact⟨rfl,A.o.1,A.o.2⟩
def NT(loc:α->Nat)(fid b o g n cap:Nat)(f:Nat->α)(q p:Nat)(u:QX):Prop:=u.cell? ⟨b,o+1,none⟩=some (.func (.func fid) #[] #[])/\u.cell? ⟨b,o,none⟩=some (.c g n cap)/\u.cell? ⟨g,q,none⟩=some ((.h (loc (f q))))/\u.cell? ⟨g,p,none⟩=some ((.h (loc (f p))))
theorem Ji(w:QX){ah:α->α->Bool}{Ok:α->QX->Prop}(m:aO w b o B 123 1 (λx=>[(.h (loc (x)))]) (.func (.func fid) #[] #[]) f n a cap)(v:nA fid (λx=>(.h (loc (x)))) ah Ok)(G:fid=43\/fid=44)(z:∀i,i<n->∀u,K_ w u->Ok (f i) u){k:Nat}(O:k<=n)(P:n<=1000000):
  Calls prog 125 #[.pointer (some ⟨b,o,none⟩),.b (k:Int)] w λe w'=>e=.returned (.b (dU ah f n k:Nat))/\K_ w w':=by
 have⟨j,H,A⟩:=dC m v z;clear m v z;rcases G with rfl|rfl
 all_goals
  go_enter func125,ntmps125
  go_wp2
  go_loopw [5,6] (λx y wr=>∃p q:Nat,x=.b (p:Int)/\y=.b (q:Int)/\Hid (oK ah f n k q p)/\Hid (K_ w wr)) λ_ y _=>2*k+3-(intOf y).toNat
  case atStart=>exact⟨k,2*k+1,rfl,C8,.inl ⟨rfl,rfl⟩,K_.refl w⟩
  case round=>
   obtain⟨p,q,rfl,rfl,r,h⟩:=hrel;have Q:=(j.o.kept h.o).c0;by_cases I:q<=2*k+2/\q<n
   .have C:(q:Int)<=2*(k:Int)+2:=A7;have J:(q:Int)<(n:Int):=A7;obtain⟨g,rfl,R,S,T⟩:=j.o.pos A7;have K:p<n:=by
     rcases r.o with⟨d,c⟩|⟨d,c⟩|⟨d,c⟩
     .omega
     .rw[c];unfold g_;split<;>omega
     .omega
    have U:(p:Int)<(n:Int):=A7;have L:Hid (∀u,K_ w u->NT loc _ b o g n cap f q p u):=λu k=>⟨((j.o.kept k)).c1,((j.o.kept k)).c0,(j.o.kept k).uf I.2,(j.o.kept k).uf K⟩
    go_wp2
    refine Qk.region C9 (λu=>u.cell? ⟨b,o+1,none⟩=some (.func (.func _) #[] #[])/\u.cell? ⟨b,o,none⟩=some (.c g n cap)/\u.cell? ⟨g,q,none⟩=some (.h (loc (f q)))/\u.cell? ⟨g,p,none⟩=some (.h (loc (f p)))) 18 (L.o _ (h.o.drew)) λl=>?_;refine ax 0 l ?_;refine ax 4 l ?_;refine ax 8 l ?_;refine ax 12 l ?_;refine ae 16 l ?_;refine ae 17 l ?_;refine aD 18 λM D=>?_;go_simp
    refine (H.o (f q) (f p) _ (A.o q A7 _ h.o.drew) (A.o p A7 _ h.o.drew)).mono ?_;rintro e V ⟨rfl,N⟩;dsimp only;have E:=Kz (h.o.drew.trans N);refine af D (λm=>absurd rfl m) ?_;clear D M;refine aF ?_;cases s:ah (f q) (f p)
    .have t:Hid (oK ah f n k (q+1) p):=by
      rcases r.o with⟨d,c⟩|⟨d,c⟩|⟨d,c⟩
      .exact .inr (.inl ⟨A7,by unfold g_;rw[QJ (by rw[<-d,<-c,s];simp)];exact c⟩)
      .exact .inr (.inr ⟨A7,by unfold dU;rw[QJ (by rw[<-d,<-c,s];simp)];exact c⟩)
      .omega
     go_wp2
     go_roundw
     case rel=>exact⟨p,q+1,rfl,C8,t,E⟩
     case measure=>simp[intOf];omega
    .have t:Hid (oK ah f n k (q+1) q):=by
      rcases r.o with⟨d,c⟩|⟨d,c⟩|⟨d,c⟩
      .exact .inr (.inl ⟨A7,by unfold g_;rw[QI ⟨A7,by rw[<-d,<-c,s]⟩];exact d⟩)
      .exact .inr (.inr ⟨A7,by unfold dU;rw[QI ⟨A7,by rw[<-d,<-c,s]⟩];exact d⟩)
      .omega
     go_wp2
     go_roundw
     case rel=>exact⟨q,q+1,rfl,C8,t,E⟩
     case measure=>simp[intOf];omega
   .have F:Hid (p=dU ah f n k):=by
     show _=_;rcases r.o with⟨d,c⟩|⟨d,c⟩|⟨d,c⟩
     .unfold dU g_;rw[QJ A7,QJ A7];exact c
     .unfold dU;rw[QJ A7];exact c
     .exact c
    by_cases W:q<=2*k+2
    .have C:(q:Int)<=2*(k:Int)+2:=A7;have J:¬(q:Int)<(n:Int):=A7;go_wp2
     go_ret
     exact⟨by rw[F.out];rfl,h.o⟩
    .have C:¬(q:Int)<=2*(k:Int)+2:=A7;go_wp2
     go_ret
     exact⟨by rw[F.out];rfl,h.o⟩
theorem Ey(w:QX){ah:α->α->Bool}{Ok:α->QX->Prop}(l:aO w b o B 123 1 (λx=>[(.h (loc (x)))]) (.func (.func fid) #[] #[]) f n a cap)(S:nA fid (λx=>(.h (loc (x)))) ah Ok)(hf:fid=43\/fid=44)(x:α)(T:∀y u,(y=x\/iJ f n y)->But (λz=>z=b\/(Value.slice a n cap).ownBlock=some z) w u->Ok y u)(hn:n<1000000)(hB:B<=w.heap.size):
  Calls prog 90 #[.pointer (some ⟨b,o,none⟩),(.h (loc (x)))] w λe w'=>e=.returned (.tuple #[])/\∃a' cap',aO w' b o B 123 1 (λx=>[(.h (loc (x)))]) (.func (.func fid) #[] #[]) (iO ah f n x) (n+1) a' cap'/\ToH w w' b o a n cap a' (n+1) cap':=by
 obtain⟨ie,a7,a8,a9,b0⟩:=info_parts Tryz.OE;have⟨HM,HA,U⟩:=dC l S T;have V:=l.c0;have I:=l.lt;obtain⟨t0,m0,W,c7⟩:=l.blk;have b1:=Kz (l.row.alloc (.cells #[(.h (loc (x)))] 123));have b2:Hid (∀j u,([(.h (loc (x)))]:List QY)[j]? =some u->(w.alloc (.cells #[(.h (loc (x)))] 123)).cell? ((⟨w.heap.size,0,none⟩:Addr).add j)=some u):=λj u hj=>by rw[Qo];exact X_ w #[(.h (loc (x)))] 123 j u hj
 have b3:Hid (∀u∈([(.h (loc (x)))]:List QY),u.oneCell'=true):=λu X=>by rw[PI] at X;subst X;rfl
 have b4:Hid (n+1<=maxLen):=I5;have b5:Hid ((n+1)*8<=140737488355328):=I4;have b6:Hid (B<=(w.alloc (.cells #[(.h (loc (x)))] 123)).heap.size):=by show _<=_;rw[Qh];omega
 have b7:Hid (∀d h (w1:QX),w1.ownsRow B 123 1 (.c d (n+1) h) (n+1) (bN (λx=>[(.h (loc (x)))]) f n++[(.h (loc (x)))])->(w.alloc (.cells #[(.h (loc (x)))] 123)).grownBy w1 (Value.slice a n cap).ownBlock->((Value.slice a n cap).ownBlock=some d\/d= (w.alloc (.cells #[(.h (loc (x)))] 123)).heap.size)->
   (aO (w1.setCell ⟨b,o,none⟩ (.c d (n+1) h)) b o B 123 1 (λx=>[(.h (loc (x)))]) (.func (.func fid) #[] #[]) (λi=>if i=n then x else f i) (n+1) (some ⟨d,0,none⟩) h/\ToH w (w1.setCell ⟨b,o,none⟩ (.c d (n+1) h)) b o a n cap (some ⟨d,0,none⟩) (n+1) h)/\w1.frozen? ⟨b,o,none⟩=false/\∃J,w1.cell? ⟨b,o,none⟩=some J):=λd h w1 b8 b9 Y=>by
  have kA:K_ w (w.alloc (.cells #[(.h (loc (x)))] 123)):=ai w _;have Z:But (λz=>(Value.slice a n cap).ownBlock=some z) w w1:=(But.ak kA).trans (.aI b9 λ_ l=>l);have c0:(Value.slice (some ⟨d,0,none⟩) (n+1) h).ownBlock≠some b:=λe=>by
   have v:d=b:=by injection e
   rcases Y with s|s
   .exact l.ne (by rw[s,v])
   .rw[Qh] at s;omega
  have ho:w1.ownsRow B 123 1 (.c d (n+1) h) (n+1) (bN (λx=>[(.h (loc (x)))]) (λi=>if i=n then x else f i) (n+1)):=by
   have v:bN (λx=>[(.h (loc (x)))]) (λi=>if i=n then x else f i) (n+1)=bN (λx=>[(.h (loc (x)))]) f n++[(.h (loc (x)))]:=by
    simp only[bN,if_true];rw[iA λi K=>by rw[QJ A7]]
   rw[v];exact b8
  obtain⟨j1,j2,j3,j4⟩:=l.told Z ho c0;have c2:=Z.row W l.ne;obtain⟨⟨J,L⟩,M⟩:=c2.row.at (i:=o) A7;refine⟨⟨j1,j2,j3,j4,λz hz=>?_⟩,M,J,L⟩;have v:d=z:=by injection hz
  subst v;rcases Y with s|s
  .exact .inl s
  .exact .inr (by rw[Qh] at s;omega)
 obtain⟨fv,a0⟩:=aj (Value.func (.func fid) #[] #[]);have F:=Kz a0;clear l S T W a0;rcases hf with rfl|rfl
 all_goals
  go_enter func90,ntmps90
  go_wp2_with (at_builtin;refine wpList_append_lies _ rfl (.tmp 10) (.tmp 12) 101 rfl B 123 ie (.pointer none) 1 8 underlying101 a7 a8 a9 b0 rfl A8 (.slice a n cap) n _ rfl b1.o ⟨w.heap.size,0,none⟩ 1 1 [(.h (loc (x)))] rfl rfl b2.o b3.o A8 b4.o b5.o b6.o _ rfl ?_;intro d h w1 a1 a2 a3 _;obtain⟨N,M,v0,L⟩:=b7.o d h w1 a1 a2 a3;have O:=Kz N;have c1:=N.1.c0;clear a1 a2 a3 N V)
  generalize c3:w1.setCell ⟨b,o,none⟩ (.c d (n+1) h)=w2 at O c1⊢;clear c3 M L v0;go_loopw [4] (λy wr=>∃(k q:Nat)(c:Nat->α),y=.b (k:Int)/\k<=n/\k<=q/\Hid (aO wr b o B 123 1 (λx=>[(.h (loc (x)))]) fv c (n+1) (some ⟨d,0,none⟩) h)/\Hid (upF ah q c k=iO ah f n x)/\Hid (∀i,i<n+1->c i=x\/iJ f n (c i))/\Hid (ToH w wr b o a n cap (some ⟨d,0,none⟩) (n+1) h)) λy _=>(intOf y).toNat
  case atStart=>
   refine⟨n,n,λi=>if i=n then x else f i,C8,Pw _,Pw _,by rw[F.o];exact O.o.1,rfl,λi K=>?_,O.o.2⟩;by_cases e:i=n
   .exact .inl (QI e)
   .exact .inr ⟨i,A7,by simp only[QJ e]⟩
  case round=>
   obtain⟨k,q,c,rfl,hk,hm,m,HU,A,G⟩:=hrel;clear c1;have V:=m.o.c0;by_cases P:k=0
   .subst P;have C:Hid (c=iO ah f n x):=by
     show _=_;rw[<-HU.o];cases q<;>simp[upF]
    go_wp2
    go_end0
    exact⟨rfl,_,_,by rw[<-C.o,<-F.o];exact m.o,G.o⟩
   .obtain⟨q,rfl⟩:∃m',q=m'+1:=⟨q-1,A7⟩;obtain⟨p,D⟩:=aj (bW k);have c8:p<k:=by rw[D];unfold bW;omega
    have c9:((k:Int)-1).tdiv 2= (p:Int):=by rw[D];unfold bW;rw[Int.tdiv_eq_ediv_of_nonneg A7];omega
    have d0:((k:Int)-1) / 2= (p:Int):=by rw[D];unfold bW;omega
    have d1:(0:Int)<(k:Int):=A7;have d2:(k:Int)<(n:Int)+1:=A7;have d3:(p:Int)<(n:Int)+1:=A7;have a4:Hid (if ah (c k) (c p)=true then upF ah q (swp c k p) p=iO ah f n x else c=iO ah f n x):=by
     have e:=HU.o;simp only[upF,QJ P] at e;rw[<-D] at e;show if _ then _ else _
     split
     .next g=>rw[QI g] at e;exact e
     .next g=>rw[QJ g] at e;exact e
    have a5:=Kz G.o.but;have Q:Hid (∀u,K_ wr u->NT loc _ b o d (n+1) h c k p u):=λu H=>⟨by have:=(m.o.kept H).c1;rw[F.o] at this;exact this,((m.o.kept H)).c0,(m.o.kept H).uf A7,(m.o.kept H).uf A7⟩
    clear D P;go_wp2
    refine Qk.region C9 (λu=>u.cell? ⟨b,o+1,none⟩=some (.func (.func _) #[] #[])/\u.cell? ⟨b,o,none⟩=some (.c d (n+1) h)/\u.cell? ⟨d,k,none⟩=some (.h (loc (c k)))/\u.cell? ⟨d,p,none⟩=some (.h (loc (c p)))) 19 (Q.o _ (a_ _)) λr=>?_;refine ax 0 r ?_;refine ax 4 r ?_;refine ax 8 r ?_;refine ax 12 r ?_;refine ae 16 r ?_;refine ae 17 r ?_;refine aD 18 λR E=>?_;go_simp
    refine (HA.o (c k) (c p) _ (U.o _ _ (A.o k A7) (a5.o.trans (.ak (a_ _)))) (U.o _ _ (A.o p A7) (a5.o.trans (.ak (a_ _))))).mono ?_;rintro e w8 ⟨rfl,k8⟩;dsimp only;have t:=Kz ((K_.refl wr).drew.trans k8);refine af E (λ_=>Q.o _ t.o) ?_;clear E R r;have r:=Q.o _ t.o;refine aD 19 λR E=>?_;go_simp
    refine af E (λl=>QK rfl l) ?_;clear E R;refine aF ?_;cases hx:ah (c k) (c p)
    .have C:=Kz (show c=iO ah f n x by have e:=a4.o;rw[hx] at e;simpa using e);go_wp2
     try simp only[Exit.inBlock,Exit.then]
     refine bodyPost_ret (results_none rfl _ _ _) rfl ?_;exact⟨rfl,_,_,by rw[<-C.o,<-F.o];exact m.o.kept t.o,G.o.next (.ak t.o) I (m.o.ne)⟩
    .have C:=Kz (show upF ah q (swp c k p) p=iO ah f n x by have e:=a4.o;rw[hx] at e;simpa using e);go_wp2_with fail
     refine (uN _ (m.o.kept t.o) (i:=k) (j:=p) A7 A7 A7).mono ?_;rintro e w9 ⟨rfl,a6,k9⟩;have c4:=Kz a6;have c5:=Kz ((G.o.next (.ak t.o) I (m.o.ne)).next k9 I (m.o.ne));have c6:Hid (∀i,i<n+1->swp c k p i=x\/iJ f n (swp c k p i)):=λi K=>by
      unfold swp
      split
      .exact A.o p A7
      .split
       .exact A.o k A7
       .exact A.o i K
     clear a6 k9;go_wp2
     go_roundw
     case rel=>exact⟨p,q,swp c k p,rfl,A7,A7,c4,C,c6,c5⟩
     case measure=>simp[intOf];omega
theorem Bh(w:QX){ah:α->α->Bool}{Ok:α->QX->Prop}(h:aO w b o B 123 1 (λx=>[(.h (loc (x)))]) (.func (.func fid) #[] #[]) f (n+1) a cap)(I:nA fid (λx=>(.h (loc (x)))) ah Ok)(S:fid=43\/fid=44)(J:∀y u,iJ f (n+1) y->But (λz=>z=b\/(Value.slice a (n+1) cap).ownBlock=some z) w u->Ok y u)(hn:n<1000000):
  Calls prog 94 #[.pointer (some ⟨b,o,none⟩)] w λe w'=>e=.returned ((.h (loc (f 0))))/\aO w' b o B 123 1 (λx=>[(.h (loc (x)))]) (.func (.func fid) #[] #[]) (fP ah f n) n a cap/\ToH w w' b o a (n+1) cap a n cap:=by
 obtain⟨g,rfl,a6,a7,a8⟩:=h.pos A7;have⟨K,T,U⟩:=dC h I J;have t:=h.lt;have L:=h.ne;have V:=h.c0;have a9:(n:Int)<=(cap:Int):=A7;have b0:(n:Int)+1-1= (n:Int):=A7;have W:Hid (∀w1:QX,aO w1 b o B 123 1 (λx=>[(.h (loc (x)))]) (.func (.func fid) #[] #[]) (swp f 0 n) (n+1) (some ⟨g,0,none⟩) cap->But (λx=>(Value.slice (some ⟨g,0,none⟩) (n+1) cap).ownBlock=some x) w w1->
   (aO (w1.setCell ⟨b,o,none⟩ (.c g n cap)) b o B 123 1 (λx=>[(.h (loc (x)))]) (.func (.func fid) #[] #[]) (swp f 0 n) n (some ⟨g,0,none⟩) cap/\ToH w (w1.setCell ⟨b,o,none⟩ (.c g n cap)) b o (some ⟨g,0,none⟩) (n+1) cap (some ⟨g,0,none⟩) n cap)/\w1.frozen? ⟨b,o,none⟩=false):=λw1 v l=>by
  obtain⟨X,Y,Z,j4⟩:=v.told (.ak (K_.refl w1)) (uE (λ_=>rfl) v.row) v.ne;obtain⟨t0,m0,a0,b1⟩:=v.blk;refine⟨⟨X,⟨?_,λi p=>(Z i p).trans (l.cell t L),λa1 m hr=>j4 a1 m (l.row hr L),λx hx=>.inl hx⟩⟩,(a0.row.at (i:=o) A7).2⟩;exact (l.mono λ_ _ h=>.inr h).trans Y
 clear h I J;obtain⟨fv,M⟩:=aj (Value.func (.func fid) #[] #[]);have D:=Kz M;clear M;rcases S with rfl|rfl
 all_goals
  go_enter func94,ntmps94
  go_wp2_with fail
  refine (FY w K.o A7).mono ?_;rintro e w0 ⟨rfl,h0⟩;obtain rfl:=h0.symm;go_wp2_with fail
  refine (uN w K.o (i:=0) (j:=n) A7 A7 A7).mono ?_;rintro e w1 ⟨rfl,E,l⟩;obtain⟨N,f0⟩:=W.o w1 E l;have F:=Kz N;have c1:=E.c0;clear E l N V;go_wp2
  generalize a2:w1.setCell ⟨b,o,none⟩ (.c g n cap)=w2 at F⊢;clear a2 f0 c1;go_loopw [5] (λy wr=>∃(k m:Nat)(c:Nat->α),y=.b (k:Int)/\k<=n/\(k<n\/n=0)/\n<=k+m/\Hid (aO wr b o B 123 1 (λx=>[(.h (loc (x)))]) fv c n (some ⟨g,0,none⟩) cap)/\Hid (jJ ah m c n k=fP ah f n)/\Hid (∀i,i<n->iJ f (n+1) (c i))/\Hid (ToH w wr b o (some ⟨g,0,none⟩) (n+1) cap (some ⟨g,0,none⟩) n cap)) λy _=>n-(intOf y).toNat
  case atStart=>
   refine⟨0,n,swp f 0 n,rfl,A7,A7,A7,by rw[D.o];exact F.o.1,rfl,λi p=>?_,F.o.2⟩;unfold swp
   split
   .exact⟨n,A7,rfl⟩
   .split
    .omega
    .exact⟨i,A7,rfl⟩
  case round=>
   obtain⟨k,m,c,rfl,hk,b2,hm,r,O,A,G⟩:=hrel;go_wp2_with fail
   refine (Ji wr (by have:=r.o;rw[D.o] at this;exact this) T.o A9 (λi p u ku=>U.o _ u (A.o i p) (G.o.but.trans (.ak ku))) hk A7).mono ?_;rintro e w8 ⟨rfl,P⟩;have C:=Kz P;clear P;obtain⟨q,d⟩:=aj (dU ah c n k);rw[<-d];by_cases s:q=k
   .have H:=Kz (show c=fP ah f n by
     have e:=O.o;cases m with
     |zero=>exact e
     |succ m=>simp only[jJ] at e;rw[QI (d.symm.trans s)] at e;exact e)
    have e0:((q:Int) == (k:Int))=true:=by rw[s];simp
    clear s d;go_wp2
    go_ret
    exact⟨rfl,by rw[<-H.o,<-D.o];exact r.o.kept C.o,G.o.next (.ak C.o) t (r.o.ne)⟩
   .have b3:q<n/\k<q:=by
     rcases mV (ah:=ah) c n k with e|⟨e,e1⟩|⟨e,e1⟩
     .exact QK (d.trans e) s
     .omega
     .omega
    obtain⟨m,rfl⟩:∃m',m=m'+1:=⟨m-1,A7⟩;have H:=Kz (show jJ ah m (swp c k q) n q=fP ah f n by
     have e:=O.o;simp only[jJ] at e;rw[QJ λx=>s (d.trans x),<-d] at e;exact e)
    have e0:((q:Int) == (k:Int))=false:=by
     have:¬(q:Int)= (k:Int):=A7;simpa using this
    clear s d;go_wp2_with fail
    refine (uN w8 (r.o.kept C.o) (i:=k) (j:=q) A7 A7 A7).mono ?_;rintro e w9 ⟨rfl,Q,R⟩;have a3:=Kz Q;have a4:=Kz ((G.o.next (.ak C.o) t (r.o.ne)).next R t (r.o.ne));have a5:Hid (∀i,i<n->iJ f (n+1) (swp c k q i)):=λi p=>by
     unfold swp
     split
     .exact A.o q A7
     .split
      .exact A.o k A7
      .exact A.o i p
    clear Q R;go_wp2
    go_roundw
    case rel=>exact⟨q,m,swp c k q,rfl,A7,A7,A7,a3,H,a5,a4⟩
    case measure=>simp[intOf];omega
end
theorem Tryz.OL :(prog.info? 3).map (λi=>(i.zero,i.size,i.bytes))=some (some (.b 0),1,8):=C9
variable {fid:Nat}
section
variable {α:Type}{num:α -> Int}{b o B n cap:Nat}{fn:QY}{f:Nat -> α}{a:QW}
theorem aO.ui{w:QX}{g:Nat}(h:aO w b o B 3 1 (λx=>[(.b (num (x)))]) fn f n (some ⟨g,0,none⟩) cap){i:Nat}(c:i<n):w.cell? ⟨g,i,none⟩=some ((.b (num (f i)))):=by
 have:=h.at c (j:=0) A7;rw[Nat.mul_one] at this;exact this
theorem FK(w:QX)(h:aO w b o B 3 1 (λx=>[(.b (num (x)))]) fn f n a cap):
  Calls prog 95 #[.pointer (some ⟨b,o,none⟩)] w λe w'=>e=.returned (.bool (decide (n=0)))/\w'=w:=by
 have c:=h.c0;have d:((n:Int) == 0)=decide (n=0):=by
  by_cases e:n=0
  .subst e;rfl
  .rw[decide_eq_false e];simpa using e
 go_enter func95,ntmps95
 go_wp2
 go_ret
 exact⟨rfl,rfl⟩
theorem FH(w:QX)(h:aO w b o B 3 1 (λx=>[(.b (num (x)))]) fn f n a cap)(c:0<n):
  Calls prog 127 #[.pointer (some ⟨b,o,none⟩)] w λe w'=>e=.returned ((.b (num (f 0))))/\w'=w:=by
 obtain⟨g,rfl,d,i,j⟩:=h.pos c;have k:=h.c0;have l:=h.ui c;have m:(0:Int)<(n:Int):=A7;go_enter func127,ntmps127
 go_wp2
 go_ret
 exact⟨rfl,rfl⟩
theorem uH(w:QX)(h:aO w b o B 3 1 (λx=>[(.b (num (x)))]) fn f n a cap){i j:Nat}(m:i<n)(r:j<n)(F:n<=1000000):
  Calls prog 87 #[.pointer (some ⟨b,o,none⟩),.b (i:Int),.b (j:Int)] w λe w'=>e=.returned (.tuple #[])/\aO w' b o B 3 1 (λx=>[(.b (num (x)))]) fn (swp f i j) n a cap/\But (λx=>(Value.slice a n cap).ownBlock=some x) w w':=by
 obtain⟨g,rfl,y,G,H⟩:=h.pos A7;have C:Hid (∀u,K_ w u->(u.cell? ⟨b,o,none⟩=some (.c g n cap)/\u.cell? ⟨g,i,none⟩=some ((.b (num (f i))))/\u.cell? ⟨g,j,none⟩=some ((.b (num (f j)))))):=λu k=>⟨(k.cell h.lt).trans h.c0,(k.cell y).trans (h.ui m),(k.cell y).trans (h.ui r)⟩
 have I:(i:Int)<(n:Int):=A7;have J:(j:Int)<(n:Int):=A7;obtain⟨z,s⟩:=aj w.drew;have t:K_ w z:=by rw[s];exact (a_ w)
 have D:=Kz s;clear s;have d:=h.kept t;have L:=d.row.frozenAt i;have M:=d.ui m;obtain⟨w1,q⟩:=aj (z.setCell ⟨g,i,none⟩ ((.b (num (f j)))));have v:aO w1 b o B 3 1 (λx=>[(.b (num (x)))]) fn (λk=>if k=i then f j else f k) n (some ⟨g,0,none⟩) cap:=by have:=d.set m (f j);rw[Nat.mul_one] at this;rw[q];exact this
 have N:=v.row.frozenAt j;have O:=v.ui r;have A:Hid (aO (w1.setCell ⟨g,j,none⟩ ((.b (num (f i))))) b o B 3 1 (λx=>[(.b (num (x)))]) fn (swp f i j) n (some ⟨g,0,none⟩) cap/\But (λx=>(Value.slice (some ⟨g,0,none⟩) n cap).ownBlock=some x) w (w1.setCell ⟨g,j,none⟩ ((.b (num (f i)))))):=by
  have:=d.swap m r;simp only[Nat.mul_one] at this;rw[q];exact⟨this,((But.ak (S:=λx=>(Value.slice (some ⟨g,0,none⟩) n cap).ownBlock=some x) t).set (p:=⟨g,i,none⟩) rfl _).set (p:=⟨g,j,none⟩) rfl _⟩
 have E:=Kz q;clear h d v t q;go_enter func87,ntmps87
 go_wp2
 refine UpZ.region C9 (λu=>u.cell? ⟨b,o,none⟩=some (.c g n cap)/\u.cell? ⟨g,i,none⟩=some ((.b (num (f i))))/\u.cell? ⟨g,j,none⟩=some ((.b (num (f j))))) [25,27] (C.o _ (a_ w)) λc=>?_;rw[<-D.o] at c⊢;refine UpZ.tk 0 c ?_;refine UpZ.tk 1 c ?_;refine UpZ.tk 2 c ?_;refine UpZ.tk 3 c ?_;refine UpZ.tk 4 c ?_;refine UpZ.tk 5 c ?_;refine UpZ.tk 6 c ?_;refine UpZ.tk 7 c ?_;refine UpZ.tk 8 c ?_;refine UpZ.pu 9 ?_;refine UpZ.tk 10 c ?_;refine UpZ.tk 11 c ?_;refine UpZ.tk 12 c ?_;refine UpZ.tk 13 c ?_;refine UpZ.tk 14 c ?_;refine UpZ.tk 15 c ?_;refine UpZ.tk 16 c ?_;refine UpZ.tk 17 c ?_;refine UpZ.tk 18 c ?_;refine UpZ.tk 19 c ?_;refine UpZ.tk 20 c ?_;refine UpZ.tk 21 c ?_;refine UpZ.tk 22 c ?_;refine UpZ.tk 23 c ?_;refine UpZ.tk 24 c ?_;refine UpZ.nx 25 λK l=>?_;rw[QI D8];go_simp
 rw[<-E.o];refine l.out _ _ (λh=>QK A8 h) ?_;clear l K;try simp only[upP]
 refine UpZ.pu 26 ?_;refine UpZ.nx 27 λK l=>?_;rw[QI D8];go_simp
 refine l.out _ _ (λh=>QK A8 h) ?_;clear l K;try simp only[upP]
 refine UpZ.dn ?_;go_wp2
 go_end0
 exact⟨rfl,A.o.1,A.o.2⟩
def NL(num:α->Int)(fid b o g n cap:Nat)(f:Nat->α)(q p:Nat)(u:QX):Prop:=u.cell? ⟨b,o+1,none⟩=some (.func (.func fid) #[] #[])/\u.cell? ⟨b,o,none⟩=some (.c g n cap)/\u.cell? ⟨g,q,none⟩=some ((.b (num (f q))))/\u.cell? ⟨g,p,none⟩=some ((.b (num (f p))))
theorem IZ(w:QX){ah:α->α->Bool}{Ok:α->QX->Prop}(m:aO w b o B 3 1 (λx=>[(.b (num (x)))]) (.func (.func fid) #[] #[]) f n a cap)(v:nA fid (λx=>(.b (num (x)))) ah Ok)(G:fid=46)(z:∀i,i<n->∀u,K_ w u->Ok (f i) u){k:Nat}(O:k<=n)(P:n<=1000000):
  Calls prog 128 #[.pointer (some ⟨b,o,none⟩),.b (k:Int)] w λe w'=>e=.returned (.b (dU ah f n k:Nat))/\K_ w w':=by
 have⟨j,H,A⟩:=dC m v z;clear m v z;subst G
 all_goals
  go_enter func128,ntmps128
  go_wp2
  go_loopw [5,6] (λx y wr=>∃p q:Nat,x=.b (p:Int)/\y=.b (q:Int)/\Hid (oK ah f n k q p)/\Hid (K_ w wr)) λ_ y _=>2*k+3-(intOf y).toNat
  case atStart=>exact⟨k,2*k+1,rfl,C8,.inl ⟨rfl,rfl⟩,K_.refl w⟩
  case round=>
   obtain⟨p,q,rfl,rfl,r,h⟩:=hrel;have Q:=(j.o.kept h.o).c0;by_cases I:q<=2*k+2/\q<n
   .have C:(q:Int)<=2*(k:Int)+2:=A7;have J:(q:Int)<(n:Int):=A7;obtain⟨g,rfl,R,S,T⟩:=j.o.pos A7;have K:p<n:=by
     rcases r.o with⟨d,c⟩|⟨d,c⟩|⟨d,c⟩
     .omega
     .rw[c];unfold g_;split<;>omega
     .omega
    have U:(p:Int)<(n:Int):=A7;have L:Hid (∀u,K_ w u->NL num _ b o g n cap f q p u):=λu k=>⟨((j.o.kept k)).c1,((j.o.kept k)).c0,(j.o.kept k).ui I.2,(j.o.kept k).ui K⟩
    go_wp2
    refine Qk.region C9 (λu=>u.cell? ⟨b,o+1,none⟩=some (.func (.func _) #[] #[])/\u.cell? ⟨b,o,none⟩=some (.c g n cap)/\u.cell? ⟨g,q,none⟩=some (.b (num (f q)))/\u.cell? ⟨g,p,none⟩=some (.b (num (f p)))) 18 (L.o _ (h.o.drew)) λl=>?_;refine ax 0 l ?_;refine ax 4 l ?_;refine ax 8 l ?_;refine ax 12 l ?_;refine ae 16 l ?_;refine ae 17 l ?_;refine aD 18 λM D=>?_;go_simp
    refine (H.o (f q) (f p) _ (A.o q A7 _ h.o.drew) (A.o p A7 _ h.o.drew)).mono ?_;rintro e V ⟨rfl,N⟩;dsimp only;have E:=Kz (h.o.drew.trans N);refine af D (λm=>absurd rfl m) ?_;clear D M;refine aF ?_;cases s:ah (f q) (f p)
    .have t:Hid (oK ah f n k (q+1) p):=by
      rcases r.o with⟨d,c⟩|⟨d,c⟩|⟨d,c⟩
      .exact .inr (.inl ⟨A7,by unfold g_;rw[QJ (by rw[<-d,<-c,s];simp)];exact c⟩)
      .exact .inr (.inr ⟨A7,by unfold dU;rw[QJ (by rw[<-d,<-c,s];simp)];exact c⟩)
      .omega
     go_wp2
     go_roundw
     case rel=>exact⟨p,q+1,rfl,C8,t,E⟩
     case measure=>simp[intOf];omega
    .have t:Hid (oK ah f n k (q+1) q):=by
      rcases r.o with⟨d,c⟩|⟨d,c⟩|⟨d,c⟩
      .exact .inr (.inl ⟨A7,by unfold g_;rw[QI ⟨A7,by rw[<-d,<-c,s]⟩];exact d⟩)
      .exact .inr (.inr ⟨A7,by unfold dU;rw[QI ⟨A7,by rw[<-d,<-c,s]⟩];exact d⟩)
      .omega
     go_wp2
     go_roundw
     case rel=>exact⟨q,q+1,rfl,C8,t,E⟩
     case measure=>simp[intOf];omega
   .have F:Hid (p=dU ah f n k):=by
     show _=_;rcases r.o with⟨d,c⟩|⟨d,c⟩|⟨d,c⟩
     .unfold dU g_;rw[QJ A7,QJ A7];exact c
     .unfold dU;rw[QJ A7];exact c
     .exact c
    by_cases W:q<=2*k+2
    .have C:(q:Int)<=2*(k:Int)+2:=A7;have J:¬(q:Int)<(n:Int):=A7;go_wp2
     go_ret
     exact⟨by rw[F.out];rfl,h.o⟩
    .have C:¬(q:Int)<=2*(k:Int)+2:=A7;go_wp2
     go_ret
     exact⟨by rw[F.out];rfl,h.o⟩
theorem EE(w:QX){ah:α->α->Bool}{Ok:α->QX->Prop}(l:aO w b o B 3 1 (λx=>[(.b (num (x)))]) (.func (.func fid) #[] #[]) f n a cap)(S:nA fid (λx=>(.b (num (x)))) ah Ok)(hf:fid=46)(x:α)(T:∀y u,(y=x\/iJ f n y)->But (λz=>z=b\/(Value.slice a n cap).ownBlock=some z) w u->Ok y u)(hn:n<1000000)(hB:B<=w.heap.size):
  Calls prog 47 #[.pointer (some ⟨b,o,none⟩),(.b (num (x)))] w λe w'=>e=.returned (.tuple #[])/\∃a' cap',aO w' b o B 3 1 (λx=>[(.b (num (x)))]) (.func (.func fid) #[] #[]) (iO ah f n x) (n+1) a' cap'/\ToH w w' b o a n cap a' (n+1) cap':=by
 obtain⟨ie,a7,a8,a9,b0⟩:=info_parts Tryz.OL;have⟨HM,HA,U⟩:=dC l S T;have V:=l.c0;have I:=l.lt;obtain⟨t0,m0,W,c7⟩:=l.blk;have b1:=Kz (l.row.alloc (.cells #[(.b (num (x)))] 3));have b2:Hid (∀j u,([(.b (num (x)))]:List QY)[j]? =some u->(w.alloc (.cells #[(.b (num (x)))] 3)).cell? ((⟨w.heap.size,0,none⟩:Addr).add j)=some u):=λj u hj=>by rw[Qo];exact X_ w #[(.b (num (x)))] 3 j u hj
 have b3:Hid (∀u∈([(.b (num (x)))]:List QY),u.oneCell'=true):=λu X=>by rw[PI] at X;subst X;rfl
 have b4:Hid (n+1<=maxLen):=I5;have b5:Hid ((n+1)*8<=140737488355328):=I4;have b6:Hid (B<=(w.alloc (.cells #[(.b (num (x)))] 3)).heap.size):=by show _<=_;rw[Qh];omega
 have b7:Hid (∀d h (w1:QX),w1.ownsRow B 3 1 (.c d (n+1) h) (n+1) (bN (λx=>[(.b (num (x)))]) f n++[(.b (num (x)))])->(w.alloc (.cells #[(.b (num (x)))] 3)).grownBy w1 (Value.slice a n cap).ownBlock->((Value.slice a n cap).ownBlock=some d\/d= (w.alloc (.cells #[(.b (num (x)))] 3)).heap.size)->
   (aO (w1.setCell ⟨b,o,none⟩ (.c d (n+1) h)) b o B 3 1 (λx=>[(.b (num (x)))]) (.func (.func fid) #[] #[]) (λi=>if i=n then x else f i) (n+1) (some ⟨d,0,none⟩) h/\ToH w (w1.setCell ⟨b,o,none⟩ (.c d (n+1) h)) b o a n cap (some ⟨d,0,none⟩) (n+1) h)/\w1.frozen? ⟨b,o,none⟩=false/\∃J,w1.cell? ⟨b,o,none⟩=some J):=λd h w1 b8 b9 Y=>by
  have kA:K_ w (w.alloc (.cells #[(.b (num (x)))] 3)):=ai w _;have Z:But (λz=>(Value.slice a n cap).ownBlock=some z) w w1:=(But.ak kA).trans (.aI b9 λ_ l=>l);have c0:(Value.slice (some ⟨d,0,none⟩) (n+1) h).ownBlock≠some b:=λe=>by
   have v:d=b:=by injection e
   rcases Y with s|s
   .exact l.ne (by rw[s,v])
   .rw[Qh] at s;omega
  have ho:w1.ownsRow B 3 1 (.c d (n+1) h) (n+1) (bN (λx=>[(.b (num (x)))]) (λi=>if i=n then x else f i) (n+1)):=by
   have v:bN (λx=>[(.b (num (x)))]) (λi=>if i=n then x else f i) (n+1)=bN (λx=>[(.b (num (x)))]) f n++[(.b (num (x)))]:=by
    simp only[bN,if_true];rw[iA λi K=>by rw[QJ A7]]
   rw[v];exact b8
  obtain⟨j1,j2,j3,j4⟩:=l.told Z ho c0;have c2:=Z.row W l.ne;obtain⟨⟨J,L⟩,M⟩:=c2.row.at (i:=o) A7;refine⟨⟨j1,j2,j3,j4,λz hz=>?_⟩,M,J,L⟩;have v:d=z:=by injection hz
  subst v;rcases Y with s|s
  .exact .inl s
  .exact .inr (by rw[Qh] at s;omega)
 obtain⟨fv,a0⟩:=aj (Value.func (.func fid) #[] #[]);have F:=Kz a0;clear l S T W a0;subst hf
 all_goals
  go_enter func47,ntmps47
  go_wp2_with (at_builtin;refine wpList_append_lies _ rfl (.tmp 10) (.tmp 12) 44 rfl B 3 ie (.b 0) 1 8 underlying44 a7 a8 a9 b0 rfl A8 (.slice a n cap) n _ rfl b1.o ⟨w.heap.size,0,none⟩ 1 1 [(.b (num (x)))] rfl rfl b2.o b3.o A8 b4.o b5.o b6.o _ rfl ?_;intro d h w1 a1 a2 a3 _;obtain⟨N,M,v0,L⟩:=b7.o d h w1 a1 a2 a3;have O:=Kz N;have c1:=N.1.c0;clear a1 a2 a3 N V)
  generalize c3:w1.setCell ⟨b,o,none⟩ (.c d (n+1) h)=w2 at O c1⊢;clear c3 M L v0;go_loopw [4] (λy wr=>∃(k q:Nat)(c:Nat->α),y=.b (k:Int)/\k<=n/\k<=q/\Hid (aO wr b o B 3 1 (λx=>[(.b (num (x)))]) fv c (n+1) (some ⟨d,0,none⟩) h)/\Hid (upF ah q c k=iO ah f n x)/\Hid (∀i,i<n+1->c i=x\/iJ f n (c i))/\Hid (ToH w wr b o a n cap (some ⟨d,0,none⟩) (n+1) h)) λy _=>(intOf y).toNat
  case atStart=>
   refine⟨n,n,λi=>if i=n then x else f i,C8,Pw _,Pw _,by rw[F.o];exact O.o.1,rfl,λi K=>?_,O.o.2⟩;by_cases e:i=n
   .exact .inl (QI e)
   .exact .inr ⟨i,A7,by simp only[QJ e]⟩
  case round=>
   obtain⟨k,q,c,rfl,hk,hm,m,HU,A,G⟩:=hrel;clear c1;have V:=m.o.c0;by_cases P:k=0
   .subst P;have C:Hid (c=iO ah f n x):=by
     show _=_;rw[<-HU.o];cases q<;>simp[upF]
    go_wp2
    go_end0
    exact⟨rfl,_,_,by rw[<-C.o,<-F.o];exact m.o,G.o⟩
   .obtain⟨q,rfl⟩:∃m',q=m'+1:=⟨q-1,A7⟩;obtain⟨p,D⟩:=aj (bW k);have c8:p<k:=by rw[D];unfold bW;omega
    have c9:((k:Int)-1).tdiv 2= (p:Int):=by rw[D];unfold bW;rw[Int.tdiv_eq_ediv_of_nonneg A7];omega
    have d0:((k:Int)-1) / 2= (p:Int):=by rw[D];unfold bW;omega
    have d1:(0:Int)<(k:Int):=A7;have d2:(k:Int)<(n:Int)+1:=A7;have d3:(p:Int)<(n:Int)+1:=A7;have a4:Hid (if ah (c k) (c p)=true then upF ah q (swp c k p) p=iO ah f n x else c=iO ah f n x):=by
     have e:=HU.o;simp only[upF,QJ P] at e;rw[<-D] at e;show if _ then _ else _
     split
     .next g=>rw[QI g] at e;exact e
     .next g=>rw[QJ g] at e;exact e
    have a5:=Kz G.o.but;have Q:Hid (∀u,K_ wr u->NL num _ b o d (n+1) h c k p u):=λu H=>⟨by have:=(m.o.kept H).c1;rw[F.o] at this;exact this,((m.o.kept H)).c0,(m.o.kept H).ui A7,(m.o.kept H).ui A7⟩
    clear D P;go_wp2
    refine Qk.region C9 (λu=>u.cell? ⟨b,o+1,none⟩=some (.func (.func _) #[] #[])/\u.cell? ⟨b,o,none⟩=some (.c d (n+1) h)/\u.cell? ⟨d,k,none⟩=some (.b (num (c k)))/\u.cell? ⟨d,p,none⟩=some (.b (num (c p)))) 19 (Q.o _ (a_ _)) λr=>?_;refine ax 0 r ?_;refine ax 4 r ?_;refine ax 8 r ?_;refine ax 12 r ?_;refine ae 16 r ?_;refine ae 17 r ?_;refine aD 18 λR E=>?_;go_simp
    refine (HA.o (c k) (c p) _ (U.o _ _ (A.o k A7) (a5.o.trans (.ak (a_ _)))) (U.o _ _ (A.o p A7) (a5.o.trans (.ak (a_ _))))).mono ?_;rintro e w8 ⟨rfl,k8⟩;dsimp only;have t:=Kz ((K_.refl wr).drew.trans k8);refine af E (λ_=>Q.o _ t.o) ?_;clear E R r;have r:=Q.o _ t.o;refine aD 19 λR E=>?_;go_simp
    refine af E (λl=>QK rfl l) ?_;clear E R;refine aF ?_;cases hx:ah (c k) (c p)
    .have C:=Kz (show c=iO ah f n x by have e:=a4.o;rw[hx] at e;simpa using e);go_wp2
     try simp only[Exit.inBlock,Exit.then]
     refine bodyPost_ret (results_none rfl _ _ _) rfl ?_;exact⟨rfl,_,_,by rw[<-C.o,<-F.o];exact m.o.kept t.o,G.o.next (.ak t.o) I (m.o.ne)⟩
    .have C:=Kz (show upF ah q (swp c k p) p=iO ah f n x by have e:=a4.o;rw[hx] at e;simpa using e);go_wp2_with fail
     refine (uH _ (m.o.kept t.o) (i:=k) (j:=p) A7 A7 A7).mono ?_;rintro e w9 ⟨rfl,a6,k9⟩;have c4:=Kz a6;have c5:=Kz ((G.o.next (.ak t.o) I (m.o.ne)).next k9 I (m.o.ne));have c6:Hid (∀i,i<n+1->swp c k p i=x\/iJ f n (swp c k p i)):=λi K=>by
      unfold swp
      split
      .exact A.o p A7
      .split
       .exact A.o k A7
       .exact A.o i K
     clear a6 k9;go_wp2
     go_roundw
     case rel=>exact⟨p,q,swp c k p,rfl,A7,A7,c4,C,c6,c5⟩
     case measure=>simp[intOf];omega
theorem IC(w:QX){ah:α->α->Bool}{Ok:α->QX->Prop}(h:aO w b o B 3 1 (λx=>[(.b (num (x)))]) (.func (.func fid) #[] #[]) f (n+1) a cap)(I:nA fid (λx=>(.b (num (x)))) ah Ok)(S:fid=46)(J:∀y u,iJ f (n+1) y->But (λz=>z=b\/(Value.slice a (n+1) cap).ownBlock=some z) w u->Ok y u)(hn:n<1000000):
  Calls prog 97 #[.pointer (some ⟨b,o,none⟩)] w λe w'=>e=.returned ((.b (num (f 0))))/\aO w' b o B 3 1 (λx=>[(.b (num (x)))]) (.func (.func fid) #[] #[]) (fP ah f n) n a cap/\ToH w w' b o a (n+1) cap a n cap:=by
 obtain⟨g,rfl,a6,a7,a8⟩:=h.pos A7;have⟨K,T,U⟩:=dC h I J;have t:=h.lt;have L:=h.ne;have V:=h.c0;have a9:(n:Int)<=(cap:Int):=A7;have b0:(n:Int)+1-1= (n:Int):=A7;have W:Hid (∀w1:QX,aO w1 b o B 3 1 (λx=>[(.b (num (x)))]) (.func (.func fid) #[] #[]) (swp f 0 n) (n+1) (some ⟨g,0,none⟩) cap->But (λx=>(Value.slice (some ⟨g,0,none⟩) (n+1) cap).ownBlock=some x) w w1->
   (aO (w1.setCell ⟨b,o,none⟩ (.c g n cap)) b o B 3 1 (λx=>[(.b (num (x)))]) (.func (.func fid) #[] #[]) (swp f 0 n) n (some ⟨g,0,none⟩) cap/\ToH w (w1.setCell ⟨b,o,none⟩ (.c g n cap)) b o (some ⟨g,0,none⟩) (n+1) cap (some ⟨g,0,none⟩) n cap)/\w1.frozen? ⟨b,o,none⟩=false):=λw1 v l=>by
  obtain⟨X,Y,Z,j4⟩:=v.told (.ak (K_.refl w1)) (uE (λ_=>rfl) v.row) v.ne;obtain⟨t0,m0,a0,b1⟩:=v.blk;refine⟨⟨X,⟨?_,λi p=>(Z i p).trans (l.cell t L),λa1 m hr=>j4 a1 m (l.row hr L),λx hx=>.inl hx⟩⟩,(a0.row.at (i:=o) A7).2⟩;exact (l.mono λ_ _ h=>.inr h).trans Y
 clear h I J;obtain⟨fv,M⟩:=aj (Value.func (.func fid) #[] #[]);have D:=Kz M;clear M;subst S
 all_goals
  go_enter func97,ntmps97
  go_wp2_with fail
  refine (FH w K.o A7).mono ?_;rintro e w0 ⟨rfl,h0⟩;obtain rfl:=h0.symm;go_wp2_with fail
  refine (uH w K.o (i:=0) (j:=n) A7 A7 A7).mono ?_;rintro e w1 ⟨rfl,E,l⟩;obtain⟨N,f0⟩:=W.o w1 E l;have F:=Kz N;have c1:=E.c0;clear E l N V;go_wp2
  generalize a2:w1.setCell ⟨b,o,none⟩ (.c g n cap)=w2 at F⊢;clear a2 f0 c1;go_loopw [5] (λy wr=>∃(k m:Nat)(c:Nat->α),y=.b (k:Int)/\k<=n/\(k<n\/n=0)/\n<=k+m/\Hid (aO wr b o B 3 1 (λx=>[(.b (num (x)))]) fv c n (some ⟨g,0,none⟩) cap)/\Hid (jJ ah m c n k=fP ah f n)/\Hid (∀i,i<n->iJ f (n+1) (c i))/\Hid (ToH w wr b o (some ⟨g,0,none⟩) (n+1) cap (some ⟨g,0,none⟩) n cap)) λy _=>n-(intOf y).toNat
  case atStart=>
   refine⟨0,n,swp f 0 n,rfl,A7,A7,A7,by rw[D.o];exact F.o.1,rfl,λi p=>?_,F.o.2⟩;unfold swp
   split
   .exact⟨n,A7,rfl⟩
   .split
    .omega
    .exact⟨i,A7,rfl⟩
  case round=>
   obtain⟨k,m,c,rfl,hk,b2,hm,r,O,A,G⟩:=hrel;go_wp2_with fail
   refine (IZ wr (by have:=r.o;rw[D.o] at this;exact this) T.o rfl (λi p u ku=>U.o _ u (A.o i p) (G.o.but.trans (.ak ku))) hk A7).mono ?_;rintro e w8 ⟨rfl,P⟩;have C:=Kz P;clear P;obtain⟨q,d⟩:=aj (dU ah c n k);rw[<-d];by_cases s:q=k
   .have H:=Kz (show c=fP ah f n by
     have e:=O.o;cases m with
     |zero=>exact e
     |succ m=>simp only[jJ] at e;rw[QI (d.symm.trans s)] at e;exact e)
    have e0:((q:Int) == (k:Int))=true:=by rw[s];simp
    clear s d;go_wp2
    go_ret
    exact⟨rfl,by rw[<-H.o,<-D.o];exact r.o.kept C.o,G.o.next (.ak C.o) t (r.o.ne)⟩
   .have b3:q<n/\k<q:=by
     rcases mV (ah:=ah) c n k with e|⟨e,e1⟩|⟨e,e1⟩
     .exact QK (d.trans e) s
     .omega
     .omega
    obtain⟨m,rfl⟩:∃m',m=m'+1:=⟨m-1,A7⟩;have H:=Kz (show jJ ah m (swp c k q) n q=fP ah f n by
     have e:=O.o;simp only[jJ] at e;rw[QJ λx=>s (d.trans x),<-d] at e;exact e)
    have e0:((q:Int) == (k:Int))=false:=by
     have:¬(q:Int)= (k:Int):=A7;simpa using this
    clear s d;go_wp2_with fail
    refine (uH w8 (r.o.kept C.o) (i:=k) (j:=q) A7 A7 A7).mono ?_;rintro e w9 ⟨rfl,Q,R⟩;have a3:=Kz Q;have a4:=Kz ((G.o.next (.ak C.o) t (r.o.ne)).next R t (r.o.ne));have a5:Hid (∀i,i<n->iJ f (n+1) (swp c k q i)):=λi p=>by
     unfold swp
     split
     .exact A.o q A7
     .split
      .exact A.o k A7
      .exact A.o i p
    clear Q R;go_wp2
    go_roundw
    case rel=>exact⟨q,m,swp c k q,rfl,A7,A7,A7,a3,H,a5,a4⟩
    case measure=>simp[intOf];omega
end
