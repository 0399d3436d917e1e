import Derived.Test.YtppbfddlkfglgaaGreatDoorKOPutB
import Derived.Test.YtppbfddlkfglgaaGreatDoorKWImpl5
import Derived.Test.YtppbfddlkfglgaaGreatDoorKSRoots
import Derived.Laws.EntriesVeiled
import Derived.Deep.RegionHeld
set_option maxRecDepth 100000
set_option maxHeartbeats 25600000
namespace Go.Proofs.YtppbfddlkfglgaaGreatDoor
open Go.RowKit Go.Proofs.Tryz
def Ed(l:List Qz)(p:Qz->Prop)(k:Nat):Prop:=∀j,j<k->¬p (l.getD j Qz.zero)
def sQ(l:List Qz)(p:Qz->Prop):Prop:=∃i,i<l.length/\p (l.getD i Qz.zero)
def Lr(l:List Qz)(p:Qz->Prop)(r:Int):Prop:=
 (∃i,i<l.length/\r= (i:Int)/\p (l.getD i Qz.zero))\/(r= -1/\Ed l p l.length)
def jV(d:Qz):Prop:=¬jR d.name
def oo(d:Qz):Prop:=¬iF ⟨d.cost,d.steps⟩
theorem yR(w:QX)(d:Qz)(a:QW)(cap:Nat)(l:d.Fits):
  Calls prog 77 #[.agg #[.string d.name,.b d.cost,.slice a d.steps.length cap]] w λe w'=>Says e (jV d)/\K_ w w':=by
 have f:K_ w (w.alloc (.cells #[.string d.name,.b d.cost,.slice a d.steps.length cap] 64)):=ai _ _;go_enter func77,ntmps77
 go_wp2_with fail
 refine (ny _ d.name l.name).mono ?_;rintro e w1 ⟨b,h⟩;have i:=f.trans h;clear f h;rcases b.cases with⟨rfl,j⟩|⟨rfl,k⟩
 .have c:=Kz j;clear j b;go_wp2
  go_ret
  exact⟨Says.no λm=>m c.o,i⟩
 .have c:=Kz k;clear k b;go_wp2
  go_ret
  exact⟨Says.yes c.o,i⟩
theorem zG(w:QX)(d:Qz)(a:QW)(cap:Nat)(h:d.Fits)(m:Steps w a d.steps):
  Calls prog 79 #[.agg #[.string d.name,.b d.cost,.slice a d.steps.length cap]] w λe w'=>Says e (oo d)/\K_ w w':=by
 have b:K_ w (w.alloc (.cells #[.string d.name,.b d.cost,.slice a d.steps.length cap] 64)):=ai _ _;go_enter func79,ntmps79
 go_wp2_with fail
 refine (ry _ d.cost a cap d.steps h.steps h.each (m.kept b)).mono ?_;rintro e w1 ⟨c,i⟩;have j:=b.trans i;clear b i;rcases c.cases with⟨rfl,k⟩|⟨rfl,l⟩
 .have f:=Kz k;clear k c;go_wp2
  go_ret
  exact⟨Says.no λn=>n f.o,j⟩
 .have f:=Kz l;clear l c;go_wp2
  go_ret
  exact⟨Says.yes f.o,j⟩
theorem Gg(w:QX)(a:QW)(cap:Nat)(l:List Qz)(C:l.length<=maxLen)(D:∀c∈l,c.Fits)(E:dS w a l):
  Calls prog 112 #[.slice a l.length cap,.func (.func 77) #[] #[]] w λe w'=>(∃r,e=.returned (.b r)/\Lr l jV r)/\K_ w w':=by
 unfold maxLen at C;go_enter func112,ntmps112
 go_wp2
 go_loopw [8] (λi wr=>∃k:Nat,k<=l.length/\i=.b k/\K_ w wr/\Ed l jV k) λi _=>l.length-(intOf i).toNat
 case atStart=>exact⟨0,Py _,rfl,K_.refl _,λj h=>aS h⟩
 case round=>
  obtain⟨k,M,rfl,f,q⟩:=hrel;have s:=Kz q;clear q;by_cases m:k<l.length
  .obtain⟨b,o,N,rfl,O,d,F,G,rfl,H⟩:=E.kept f k m;have t:=D (l.getD k Qz.zero) (by simp[List.getD,m]);obtain⟨c,n⟩:=aj (l.getD k Qz.zero);rw[<-n] at d t H;have v:=Kz n;clear n;have x:=d 0 _ rfl;have I:=d 1 _ rfl;have J:=d 2 _ rfl;simp only[Qp] at x;clear d;go_wp2_with fail
   refine (yR _ c F G t).mono ?_;rintro e w1 ⟨p,y⟩;have z:=f.trans y;clear x I J f y;rcases p.cases with⟨rfl,A⟩|⟨rfl,B⟩
   .have K:=Kz A;clear A p;go_wp2
    go_ret
    exact⟨⟨k,rfl,Or.inl ⟨k,m,rfl,by rw[<-v.o];exact K.o⟩⟩,z⟩
   .have L:=Kz B;clear B p;go_wp2
    go_roundw
    case rel=>
     refine⟨k+1,A7,C8,z,λj h=>?_⟩;by_cases e:j=k
     .subst e;rw[<-v.o];exact L.o
     .exact s.o j A7
    case measure=>simp[intOf];omega
  .go_wp2
   go_ret
   exact⟨⟨-1,rfl,Or.inr ⟨rfl,λj h=>s.o j A7⟩⟩,f⟩
theorem Jh(w:QX)(a:QW)(cap:Nat)(l:List Qz)(D:l.length<=maxLen)(E:∀c∈l,c.Fits)(F:dS w a l):
  Calls prog 112 #[.slice a l.length cap,.func (.func 79) #[] #[]] w λe w'=>(∃r,e=.returned (.b r)/\Lr l oo r)/\K_ w w':=by
 unfold maxLen at D;go_enter func112,ntmps112
 go_wp2
 go_loopw [8] (λi wr=>∃k:Nat,k<=l.length/\i=.b k/\K_ w wr/\Ed l oo k) λi _=>l.length-(intOf i).toNat
 case atStart=>exact⟨0,Py _,rfl,K_.refl _,λj h=>aS h⟩
 case round=>
  obtain⟨k,M,rfl,f,q⟩:=hrel;have s:=Kz q;clear q;by_cases m:k<l.length
  .obtain⟨b,o,N,rfl,O,d,G,H,rfl,t⟩:=F.kept f k m;have v:=E (l.getD k Qz.zero) (by simp[List.getD,m]);obtain⟨c,n⟩:=aj (l.getD k Qz.zero);rw[<-n] at d v t;have x:=Kz n;clear n;have y:=d 0 _ rfl;have I:=d 1 _ rfl;have J:=d 2 _ rfl;simp only[Qp] at y;clear d;go_wp2_with fail
   refine (zG _ c G H v t).mono ?_;rintro e w1 ⟨p,z⟩;have A:=f.trans z;clear y I J f z;rcases p.cases with⟨rfl,B⟩|⟨rfl,C⟩
   .have K:=Kz B;clear B p;go_wp2
    go_ret
    exact⟨⟨k,rfl,Or.inl ⟨k,m,rfl,by rw[<-x.o];exact K.o⟩⟩,A⟩
   .have L:=Kz C;clear C p;go_wp2
    go_roundw
    case rel=>
     refine⟨k+1,A7,C8,A,λj h=>?_⟩;by_cases e:j=k
     .subst e;rw[<-x.o];exact L.o
     .exact s.o j A7
    case measure=>simp[intOf];omega
  .go_wp2
   go_ret
   exact⟨⟨-1,rfl,Or.inr ⟨rfl,λj h=>s.o j A7⟩⟩,f⟩
theorem zI(w:QX)(a:QW)(cap:Nat)(l:List Qz)(m:l.length<=maxLen)(n:∀c∈l,c.Fits)(p:dS w a l):
  Calls prog 76 #[.slice a l.length cap,.func (.func 77) #[] #[]] w λe w'=>Says e (sQ l jV)/\K_ w w':=by
 go_enter func76,ntmps76
 go_wp2_with fail
 refine (Gg _ a cap l m n p).mono ?_;rintro e w1 ⟨⟨r,rfl,f⟩,h⟩;have j:=Kz f;clear f;by_cases k:0<=r
 .have q:decide (0<=r)=true:=by simpa using k
  go_wp2
  go_ret
  exact⟨Says.yes (by rcases j.o with⟨i,b,_,d⟩|⟨rfl,_⟩;exact⟨i,b,d⟩;omega),h⟩
 .have q:decide (0<=r)=false:=by simpa using k
  go_wp2
  go_ret
  exact⟨Says.no (by rcases j.o with⟨i,b,rfl,d⟩|⟨rfl,s⟩;omega;exact λ⟨i,b,d⟩=>s i b d),h⟩
theorem BH(w:QX)(a:QW)(cap:Nat)(l:List Qz)(m:l.length<=maxLen)(n:∀c∈l,c.Fits)(p:dS w a l):
  Calls prog 76 #[.slice a l.length cap,.func (.func 79) #[] #[]] w λe w'=>Says e (sQ l oo)/\K_ w w':=by
 go_enter func76,ntmps76
 go_wp2_with fail
 refine (Jh _ a cap l m n p).mono ?_;rintro e w1 ⟨⟨r,rfl,f⟩,h⟩;have j:=Kz f;clear f;by_cases k:0<=r
 .have q:decide (0<=r)=true:=by simpa using k
  go_wp2
  go_ret
  exact⟨Says.yes (by rcases j.o with⟨i,b,_,d⟩|⟨rfl,_⟩;exact⟨i,b,d⟩;omega),h⟩
 .have q:decide (0<=r)=false:=by simpa using k
  go_wp2
  go_ret
  exact⟨Says.no (by rcases j.o with⟨i,b,rfl,d⟩|⟨rfl,s⟩;omega;exact λ⟨i,b,d⟩=>s i b d),h⟩
def qU(l:List Qz)(i:Nat):Prop:=Op.bytesLess (l.getD i Qz.zero).name.toList (l.getD (i+1) Qz.zero).name.toList=false
def je(l:List Qz):Prop:=∃i,i+1<l.length/\qU l i
def Im(l:List Qz)(k:Nat):Prop:=∀j,j+1<k->¬qU l j
def bC(l:List Qz)(c:Int):Prop:=
 (60<l.length/\c=1)\/(¬60<l.length/\sQ l jV/\c=2)\/(¬60<l.length/\¬sQ l jV/\je l/\c=3)\/
 (¬60<l.length/\¬sQ l jV/\¬je l/\sQ l oo/\c=4)\/(¬60<l.length/\¬sQ l jV/\¬je l/\¬sQ l oo/\c=0)
theorem bC.unique{l:List Qz}{c f:Int}(j:bC l c)(k:bC l f):c=f:=by
 rcases j with⟨a,rfl⟩|⟨a,d,rfl⟩|⟨a,d,h,rfl⟩|⟨a,d,h,m,rfl⟩|⟨a,d,h,m,rfl⟩ <;>
  rcases k with⟨b,rfl⟩|⟨b,e,rfl⟩|⟨b,e,i,rfl⟩|⟨b,e,i,n,rfl⟩|⟨b,e,i,n,rfl⟩<;>first|rfl|contradiction
theorem nH(w:QX)(a:QW)(cap:Nat)(l:List Qz)(hl:l.length<=maxLen)(T:∀s∈l,s.Fits)(I:dS w a l):
  Calls prog 11 #[.agg #[.slice a l.length cap]] w λe w'=>(∃c,e=.returned (.b c)/\bC l c)/\K_ w w':=by
 unfold maxLen at hl;have q:K_ w (w.alloc (.cells #[.slice a l.length cap] 25)):=ai _ _;by_cases a1:(60:Int)<l.length
 .go_enter func11,ntmps11
  go_wp2
  go_ret
  exact⟨⟨1,rfl,Or.inl ⟨A7,rfl⟩⟩,q⟩
 .have a5:decide ((60:Int)<l.length)=false:=by simpa using a1
  go_enter func11,ntmps11
  go_wp2
  clear a5;go_loopw [3] (λi wr=>∃k:Nat,k<=l.length/\i=.b k/\K_ (w.alloc (.cells #[.slice a l.length cap] 25)) wr/\Ed l jV k) λi _=>l.length-(intOf i).toNat
  case atStart=>exact⟨0,Py _,rfl,K_.refl _,λj r=>aS r⟩
  case round=>
   obtain⟨k,U,rfl,d,t⟩:=hrel;have p:=Kz t;clear t;obtain⟨C,D⟩:=d.rules;have x:=d.size;simp only[Qh] at x;by_cases m:k<l.length
   .obtain⟨b,o,V,rfl,W,f,K,L,rfl,y⟩:=(I.kept q).kept d k m;have B:=T (l.getD k Qz.zero) (by simp[List.getD,m]);obtain⟨J,z⟩:=aj (l.getD k Qz.zero);rw[<-z] at f B;have E:=Kz z;clear z;have v:=f 0 _ rfl;simp only[Qp] at v;clear f y;go_wp2_with fail
    refine (oq _ J.name B.name).mono ?_;rintro e w1 ⟨A,F⟩;have a6:=Eq.symm F;clear F;subst a6;rcases A.cases with⟨rfl,G⟩|⟨rfl,H⟩
    .have M:=Kz G;clear G A v;go_wp2
     go_roundw
     case rel=>
      refine⟨k+1,A7,C8,d,λj r=>?_⟩;by_cases e:j=k
      .subst e;rw[<-E.o];exact λh=>h M.o
      .exact p.o j A7
     case measure=>simp[intOf];omega
    .have N:=Kz H;clear H A v;go_wp2
     go_ret
     exact⟨⟨2,rfl,Or.inr (Or.inl ⟨A7,⟨k,m,by rw[<-E.o];exact N.o⟩,rfl⟩)⟩,q.trans d⟩
   .have O:Hid (¬sQ l jV):=λ⟨i,X,h⟩=>p.o i A7 h
    clear p;go_wp2
    clear C D x;go_loopw [4] (λi P=>∃n:Nat,1<=n/\n<=l.length+1/\i=.b n/\K_ (w.alloc (.cells #[.slice a l.length cap] 25)) P/\Im l n) λi _=>l.length+2-(intOf i).toNat
    case atStart=>exact⟨1,A7,A7,rfl,d,λj r=>QK r A7⟩
    case round=>
     clear d U m;obtain⟨n,a8,a9,rfl,d,t⟩:=hrel;have p:=Kz t;clear t;obtain⟨C,D⟩:=d.rules;have x:=d.size;simp only[Qh] at x;by_cases m:n<l.length
     .obtain⟨b,o,V,rfl,W,f,K,L,rfl,y⟩:=(I.kept q).kept d (n-1) A7;obtain⟨b',o',b0,Y,b1,Q,ba,da,rfl,a7⟩:=(I.kept q).kept d n m;simp only[Ql,QS,and_true] at Y;obtain⟨rfl,rfl⟩:=Y;obtain⟨Z,R⟩:=aj ((l.getD (n-1) Qz.zero));obtain⟨a0,S⟩:=aj ((l.getD n Qz.zero));rw[<-R] at f;rw[<-S] at Q;have HX:Hid (l.getD (n-1) Qz.zero=Z):=R.symm;have a2:Hid (l.getD (n-1+1) Qz.zero=a0):=by rw[S,show n-1+1=n by omega];exact rfl
      clear R S y a7;have v:=f 0 _ rfl;have d0:=Q 0 _ rfl;simp only[Qp] at v d0;clear f Q;have i0:(0:Int)<=(n:Int)-1:=A7;have i1:(n:Int)-1<(l.length:Int):=A7;cases a3:Op.bytesLess Z.name.toList a0.name.toList
      .go_wp2
       go_region
       all_goals
        go_wp2
        go_ret
        exact⟨⟨3,rfl,Or.inr (Or.inr (Or.inl ⟨A7,O.o,⟨n-1,A7,by unfold qU;rw[HX.o,a2.o];exact a3⟩,rfl⟩))⟩,q.trans (by repeat (first|apply K_.drew|exact d))⟩
      .go_wp2
       go_region
       all_goals
        go_wp2
        go_roundw
        case rel=>
         refine⟨n+1,A7,A7,C8,by repeat (first|apply K_.drew|exact d),λj r=>?_⟩;by_cases e:j=n-1
         .subst e;unfold qU;rw[HX.o,a2.o,a3];simp
         .exact p.o j A7
        case measure=>simp[intOf];omega
     .have HC:Hid (¬je l):=λ⟨i,X,h⟩=>p.o i A7 h
      clear p;go_wp2
      clear C D x;go_loopw [5] (λi P=>∃k:Nat,k<=l.length/\i=.b k/\K_ (w.alloc (.cells #[.slice a l.length cap] 25)) P/\Ed l oo k) λi _=>l.length-(intOf i).toNat
      case atStart=>exact⟨0,Py _,rfl,d,λj r=>aS r⟩
      case round=>
       clear d m;obtain⟨k,U,rfl,d,t⟩:=hrel;have p:=Kz t;clear t;obtain⟨C,D⟩:=d.rules;have x:=d.size;simp only[Qh] at x;by_cases m:k<l.length
       .obtain⟨b,o,V,rfl,W,f,K,L,rfl,y⟩:=(I.kept q).kept d k m;have B:=T (l.getD k Qz.zero) (by simp[List.getD,m]);obtain⟨J,z⟩:=aj (l.getD k Qz.zero);rw[<-z] at f B y;have E:=Kz z;clear z;have v:=f 0 _ rfl;have c1:=f 1 _ rfl;have c2:=f 2 _ rfl;simp only[Qp] at v;clear f;go_wp2_with fail
        refine (gp _ J.cost K L J.steps B.steps B.each y).mono ?_;rintro e w1 ⟨A,F⟩;have a4:=d.trans F;clear d F v c1 c2 y C D;rcases A.cases with⟨rfl,G⟩|⟨rfl,H⟩
        .have M:=Kz G;clear G A;go_wp2
         go_roundw
         case rel=>
          refine⟨k+1,A7,C8,a4,λj r=>?_⟩;by_cases e:j=k
          .subst e;rw[<-E.o];exact λh=>h M.o
          .exact p.o j A7
         case measure=>simp[intOf];omega
        .have N:=Kz H;clear H A;go_wp2
         go_ret
         exact⟨⟨4,rfl,Or.inr (Or.inr (Or.inr (Or.inl ⟨A7,O.o,HC.o,⟨k,m,by rw[<-E.o];exact N.o⟩,rfl⟩)))⟩,q.trans a4⟩
       .go_wp2
        go_ret
        exact⟨⟨0,rfl,Or.inr (Or.inr (Or.inr (Or.inr ⟨A7,O.o,HC.o,λ⟨i,X,h⟩=>p.o i A7 h,rfl⟩)))⟩,q.trans d⟩
def Ik :Prop:=∀(w:QX)(a:QW)(cap:Nat)(l:List Qz),l.length<=maxLen->dS w a l->
 Calls prog 78 #[.agg #[.slice a l.length cap,.func (.func 82) #[] #[]]] w λe w'=>Says e (¬je l)/\K_ w w'
theorem Tryz.GU :(prog.info? 98).map (·.size)=some 2:=C9
theorem FE(w:QX)(c:Array QY)(t:TypeId):(w.alloc (.cells c t)).rangeAt w.heap.size 0 c.toList:=λj v a=>by
 rw[Qb,World.cell?_alloc_mark];simpa using a
theorem xD(w:QX)(a:QW)(n cap:Nat):
  Calls prog 40 #[.agg #[.slice a n cap]] w λe w'=>e=.returned (.agg #[.slice a n cap,.func (.func 82) #[] #[]])/\K_ w w':=by
 go_enter func40,ntmps40
 go_wp2
 have b:=FE (w.alloc (.cells #[.slice a n cap] 25)) #[.slice a n cap,.func (.func 82) #[] #[]] 98;rw[Qh] at b;exact Zx [.slice a n cap,.func (.func 82) #[] #[]] _ results40 rfl b underlying98 rfl Tryz.GU rfl ⟨rfl,(ai _ _).alloc _⟩
theorem uq(B:Hid Ik)(w:QX)(a:QW)(cap:Nat)(l:List Qz)(i:l.length<=maxLen)(y:∀s∈l,s.Fits)(q:dS w a l):
  Calls prog 38 #[.agg #[.slice a l.length cap]] w λe w'=>(∃c,e=.returned (.b c)/\bC l c)/\K_ w w':=by
 have C:=i;unfold maxLen at C;have r:K_ w (w.alloc (.cells #[.slice a l.length cap] 25)):=ai _ _;by_cases G:(60:Int)<l.length
 .go_enter func38,ntmps38
  go_wp2
  go_ret
  exact⟨⟨1,rfl,Or.inl ⟨A7,rfl⟩⟩,r⟩
 .go_enter func38,ntmps38
  go_wp2_with fail
  refine (zI _ a cap l i y (q.kept r)).mono ?_;rintro e w1 ⟨b,h⟩;have j:=r.trans h;rcases b.cases with⟨rfl,d⟩|⟨rfl,f⟩
  .have D:=Kz d;clear d b;go_wp2
   go_ret
   exact⟨⟨2,rfl,Or.inr (Or.inl ⟨A7,D.o,rfl⟩)⟩,j⟩
  .have t:=Kz f;clear f b;have z:w1.cell? ⟨w.heap.size,0,none⟩=some (.slice a l.length cap):=by rw[h.cell A9];simp
   go_wp2_with fail
   refine (xD _ a l.length cap).mono ?_;rintro e H ⟨rfl,k⟩;have m:=j.trans k;go_wp2_with fail
   refine (bE B _ a cap l i (q.kept m)).mono ?_;rintro e E ⟨b,n⟩;have v:=m.trans n;rcases b.cases with⟨rfl,d⟩|⟨rfl,f⟩
   .have p:=Kz d;clear d b;have I:E.cell? ⟨w.heap.size,0,none⟩=some (.slice a l.length cap):=by rw[((h.trans k).trans n).cell A9];simp
    clear z h k n j m;go_wp2_with fail
    refine (BH _ a cap l i y (q.kept v)).mono ?_;rintro e J ⟨b,F⟩;have A:=v.trans F;rcases b.cases with⟨rfl,d⟩|⟨rfl,f⟩
    .have x:=Kz d;clear d b;go_wp2
     go_ret
     exact⟨⟨4,rfl,Or.inr (Or.inr (Or.inr (Or.inl ⟨A7,t.o,p.o,x.o,rfl⟩)))⟩,A⟩
    .have x:=Kz f;clear f b;go_wp2
     go_ret
     exact⟨⟨0,rfl,Or.inr (Or.inr (Or.inr (Or.inr ⟨A7,t.o,p.o,x.o,rfl⟩)))⟩,A⟩
   .have p:=Kz f;clear f b h k n j m z;go_wp2
    go_ret
    exact⟨⟨3,rfl,Or.inr (Or.inr (Or.inl ⟨A7,t.o,Classical.not_not.1 p.o,rfl⟩))⟩,v⟩
theorem oC(w:QX)(x y z:QY)(s:QV)(c:x=.string s):
  Calls prog 82 #[.agg #[x,y,z]] w λe w'=>e=.returned (.string s)/\K_ w w':=by
 subst c;go_enter func82,ntmps82
 go_wp2
 go_ret
 exact⟨rfl,ai _ _⟩
theorem Jy{w a:QX}{x y:QY}{t:TypeId}(K:K_ (w.alloc (.cells #[x,y] t)) a):a.cell? ⟨w.heap.size,0,none⟩=some x/\a.cell? ⟨w.heap.size,1,none⟩=some y:=by
 constructor
 .rw[K.cell A9];simp
 .rw[K.cell A9];simp
theorem df{m:Int}(a: -9223372036854775808<=m)(h2:m<=9223372036854775807):IntKind.i64.wrap m=m:=by
 simp only[IntKind.wrap,IntKind.signed,IntKind.bits]
 first|omega|(simp;omega)
theorem z_(w:QX)(a:QW)(cap:Nat)(l:List Qz)(Q:l.length<=maxLen)(C:dS w a l):
  Calls prog 78 #[.agg #[.slice a l.length cap,.func (.func 82) #[] #[]]] w λe w'=>Says e (¬je l)/\K_ w w':=by
 unfold maxLen at Q;have m:K_ w (w.alloc (.cells #[.slice a l.length cap,.func (.func 82) #[] #[]] 98)):=ai _ _;go_enter func78,ntmps78
 go_wp2
 go_loopw [3] (λi wr=>∃n:Nat,1<=n/\n<=l.length+1/\i=.b n/\K_ (w.alloc (.cells #[.slice a l.length cap,.func (.func 82) #[] #[]] 98)) wr/\Im l n) λi _=>l.length+2-(intOf i).toNat
 case atStart=>exact⟨1,A7,A7,rfl,K_.refl _,λp D=>QK D A7⟩
 case round=>
  obtain⟨n,a0,a1,rfl,d,E⟩:=hrel;have F:=Kz E;clear E;have R:=d.size;simp only[Qh] at R;have G:w.heap.size<wr.heap.size:=A7;obtain⟨S,T⟩:=Jy d;by_cases U:n<l.length
  .have H:K_ w wr:=m.trans d;obtain⟨b,o,cs,rfl,f,j,q,r,rfl,V⟩:=C.kept H (n-1) A7;obtain⟨b',o',a2,I,a3,k,s,t,rfl,W⟩:=C.kept H n U;simp only[Ql,QS,and_true] at I;obtain⟨rfl,rfl⟩:=I;obtain⟨x,v⟩:=aj ((l.getD (n-1) Qz.zero));obtain⟨y,z⟩:=aj ((l.getD n Qz.zero));rw[<-v] at j;rw[<-z] at k;have J:Hid (l.getD (n-1) Qz.zero=x):=v.symm;have K:Hid (l.getD (n-1+1) Qz.zero=y):=by rw[z,show n-1+1=n by omega];exact rfl
   clear v z V W;have L:=j 0 _ rfl;have X:=j 1 _ rfl;have Y:=j 2 _ rfl;have M:=k 0 _ rfl;have Z:=k 1 _ rfl;have d2:=k 2 _ rfl;simp only[Qp] at L M;clear j k;have i0:(0:Int)<=(n:Int)-1:=A7;have i1:(n:Int)-1<(l.length:Int):=A7;have i2:(n:Int)<(l.length:Int):=A7;have i5:(1:Int)<=(n:Int):=A7;have i6:(n:Int)<=(l.length:Int):=A7;have i7:n<=l.length:=A7;have i3:((n:Int)-1).toNat=n-1:=A7;have i4:IntKind.i64.wrap ((n:Int)-1)= (n:Int)-1:=df A7 A7;have N:∀w',K_ wr w'->(λw'=>w'.cell? ⟨b,o+(n-1)*3,none⟩=some (.string x.name)/\w'.cell? ⟨b,o+(n-1)*3+1,none⟩=some (.b x.cost)/\w'.cell? ⟨b,o+(n-1)*3+2,none⟩=some (.slice q x.steps.length r)/\w'.cell? ⟨b,o+n*3,none⟩=some (.string y.name)/\w'.cell? ⟨b,o+n*3+1,none⟩=some (.b y.cost)/\w'.cell? ⟨b,o+n*3+2,none⟩=some (.slice s y.steps.length t)/\w'.cell? ⟨w.heap.size,0,none⟩=some (.slice (some ⟨b,o,none⟩) l.length cap)/\w'.cell? ⟨w.heap.size,1,none⟩=some (.func (.func 82) #[] #[])) w':=λw' c=>⟨(K_.cell c f).trans L,(K_.cell c f).trans X,(K_.cell c f).trans Y,(K_.cell c f).trans M,(K_.cell c f).trans Z,(K_.cell c f).trans d2,(K_.cell c G).trans S,(K_.cell c G).trans T⟩
   have O:=Kz N;clear N;cases P:Op.bytesLess x.name.toList y.name.toList
   .go_wp2
    go_region_held (λw'=>w'.cell? ⟨b,o+(n-1)*3,none⟩=some (.string x.name)/\w'.cell? ⟨b,o+(n-1)*3+1,none⟩=some (.b x.cost)/\w'.cell? ⟨b,o+(n-1)*3+2,none⟩=some (.slice q x.steps.length r)/\w'.cell? ⟨b,o+n*3,none⟩=some (.string y.name)/\w'.cell? ⟨b,o+n*3+1,none⟩=some (.b y.cost)/\w'.cell? ⟨b,o+n*3+2,none⟩=some (.slice s y.steps.length t)/\w'.cell? ⟨w.heap.size,0,none⟩=some (.slice (some ⟨b,o,none⟩) l.length cap)/\w'.cell? ⟨w.heap.size,1,none⟩=some (.func (.func 82) #[] #[])) (exact bE O _ I1) ((go_at_call 82;refine (oC _ _ _ _ _ rfl).mono ?_;rintro e w1 ⟨rfl,A⟩;have c:K_ wr w1:=K_.trans I1 A))
    all_goals
     have B:=d.trans c;go_wp2
     go_ret
     exact⟨Says.no λh=>h ⟨n-1,A7,by unfold qU;rw[J.o,K.o];exact P⟩,m.trans (by repeat (first|apply K_.drew|exact B))⟩
   .go_wp2
    go_region_held (λw'=>w'.cell? ⟨b,o+(n-1)*3,none⟩=some (.string x.name)/\w'.cell? ⟨b,o+(n-1)*3+1,none⟩=some (.b x.cost)/\w'.cell? ⟨b,o+(n-1)*3+2,none⟩=some (.slice q x.steps.length r)/\w'.cell? ⟨b,o+n*3,none⟩=some (.string y.name)/\w'.cell? ⟨b,o+n*3+1,none⟩=some (.b y.cost)/\w'.cell? ⟨b,o+n*3+2,none⟩=some (.slice s y.steps.length t)/\w'.cell? ⟨w.heap.size,0,none⟩=some (.slice (some ⟨b,o,none⟩) l.length cap)/\w'.cell? ⟨w.heap.size,1,none⟩=some (.func (.func 82) #[] #[])) (exact bE O _ I1) ((go_at_call 82;refine (oC _ _ _ _ _ rfl).mono ?_;rintro e w1 ⟨rfl,A⟩;have c:K_ wr w1:=K_.trans I1 A))
    all_goals
     have B:=d.trans c;go_wp2
     go_roundw
     case rel=>
      refine⟨n+1,A7,A7,C8,by repeat (first|apply K_.drew|exact B),λp D=>?_⟩;by_cases e:p=n-1
      .subst e;unfold qU;rw[J.o,K.o,P];simp
      .exact F.o p A7
     case measure=>simp[intOf];omega
  .go_wp2
   go_ret
   exact⟨Says.yes λ⟨i,hi,h⟩=>F.o i A7 h,m.trans d⟩
theorem MZ :Ik:=λw a c l e f=>z_ w a c l e f
def pK(x y:List UInt8):Int:=if Op.bytesLess x y=true then -1 else if x=y then 0 else 1
theorem vE(w:QX)(x y:QV):Calls prog 117 #[.string x,.string y] w λe w'=>e=.returned (.b (pK x.toList y.toList))/\w'=w:=by
 cases b:Op.bytesLess x.toList y.toList
 .cases c:(x.toList == y.toList)
  .go_enter func117,ntmps117
   go_wp2
   go_ret
   exact⟨Cs (by unfold pK;rw[QJ (by rw[b];simp),QJ (by simpa using c)]),rfl⟩
  .go_enter func117,ntmps117
   go_wp2
   go_ret
   exact⟨Cs (by unfold pK;rw[QJ (by rw[b];simp),QI (by simpa using c)]),rfl⟩
 .go_enter func117,ntmps117
  go_wp2
  go_ret
  exact⟨Cs (by unfold pK;rw[QI b]),rfl⟩
theorem vC(w:QX)(g:Nat)(d:Qz)(a:QW)(cap:Nat)(b:QV)(h:g<w.heap.size)(i:w.cell? ⟨g,1,none⟩=some (.func (.func 82) #[] #[])):
  Calls prog 116 #[.agg #[.string d.name,.b d.cost,.slice a d.steps.length cap],.string b,.h g] w λe w'=>e=.returned (.b (pK d.name.toList b.toList))/\K_ w w':=by
 go_enter func116,ntmps116
 go_wp2_with fail
 refine (oC _ _ _ _ d.name rfl).mono ?_;rintro e w1 ⟨rfl,c⟩;have f:K_ w w1:=K_.trans F5 c;clear c;go_wp2_with fail
 refine (vE _ d.name b).mono ?_;rintro e j ⟨rfl,rfl⟩;go_wp2
 go_ret
 exact⟨rfl,f⟩
theorem DU{x y:List UInt8}:pK x y<0↔Op.bytesLess x y=true:=by
 unfold pK;by_cases h:Op.bytesLess x y=true
 .rw[QI h];exact⟨λ_=>h,λ_=>A7⟩
 .rw[QJ h];refine⟨λg=>?_,λg=>QK g h⟩
  split at g<;>omega
theorem AX{x y:List UInt8}:pK x y=0↔x=y:=by
 unfold pK;by_cases h:Op.bytesLess x y=true
 .rw[QI h];refine⟨λg=>A7,λg=>?_⟩;rw[g,dB] at h;cases h
 .rw[QJ h];by_cases e:x=y
  .rw[QI e];exact⟨λ_=>e,λ_=>rfl⟩
  .rw[QJ e];exact⟨λg=>A7,λg=>QK g e⟩
def Found(l:List Qz)(key:List UInt8)(e:Ending):Prop:=∃(p:Nat)(f:Bool),e=.returned (.tuple #[.b p,.bool f])/\Place l key p/\(f=true↔p<l.length/\nameAt l p=key)
theorem Found.mk{l:List Qz}{a:List UInt8}{e:Ending}(p:Nat)(f:Bool)(b:e=.returned (.tuple #[.b p,.bool f]))(h2:Place l a p)(c:f=true↔p<l.length/\nameAt l p=a):Found l a e:=⟨p,f,b,h2,c⟩
theorem FL(w:QX)(g:Nat)(a:QW)(cap:Nat)(l:List Qz)(c:QV)(hl:l.length<=1048576)(N:il l)(y:g<w.heap.size)(O:w.cell? ⟨g,1,none⟩=some (.func (.func 82) #[] #[]))(P:dS w a l):
  Calls prog 115 #[.slice a l.length cap,.string c,.func (.func 116) #[] #[.h g]] w
   λe w'=>Found l c.toList e/\K_ w w':=by
 have Q:=Kz N;clear N;go_enter func115,ntmps115
 go_wp2
 go_loopw [9,10] (λB C wr=>∃i j:Nat,B=.b i/\C=.b j/\i<=j/\j<=l.length/\(∀t,t<i->Op.bytesLess (nameAt l t) c.toList=true)/\(∀t,j<=t->t<l.length->Op.bytesLess (nameAt l t) c.toList=false)/\K_ w wr) λB C _=>(intOf C).toNat-(intOf B).toNat
 case atStart=>exact⟨0,l.length,rfl,rfl,Py _,Pw _,λt R=>aS R,λt Y S=>A7,K_.refl _⟩
 case round=>
  obtain⟨i,j,rfl,rfl,a3,T,p,q,d⟩:=hrel;have r:=Kz (And.intro p q);clear p q;by_cases a4:(i:Int)<j
  .obtain⟨h,U⟩:∃h:Nat,h= (i+j) / 2:=⟨_,rfl⟩;have V:h<l.length:=A7;have Z:i<=h:=A7;have a5:h<j:=A7;obtain⟨b,o,cs,rfl,hb,f,D,E,rfl,F⟩:=P.kept d h V;obtain⟨k,m⟩:=aj (l.getD h Qz.zero);rw[<-m] at f;have G:=Kz m;clear m F;have s:=f 0 _ rfl;have H:=f 1 _ rfl;have I:=f 2 _ rfl;simp only[Qp] at s;clear f;have a6:((i:Int)+(j:Int)) / 2= (h:Int):=A7;have HH:=Kz U;clear U;have J:g<wr.heap.size:=Px y d.size;have K:wr.cell? ⟨g,1,none⟩=some (.func (.func 82) #[] #[]):=by rw[d.cell y];exact O
   go_wp2_with fail
   refine (vC _ g k D E c J K).mono ?_;rintro e w1 ⟨rfl,v⟩;have x:nameAt l h=k.name.toList:=by unfold nameAt;rw[<-G.o]
   have z:Hid (pK k.name.toList c.toList<0↔Op.bytesLess (nameAt l h) c.toList=true):=by rw[x];exact DU
   clear s H I x;generalize pK k.name.toList c.toList=W at *;have A:=d.trans v;clear d v;by_cases a0:W<0
   .go_wp2
    go_roundw
    case rel=>
     obtain⟨p,q⟩:=r.o;refine⟨h+1,j,C8,rfl,A7,T,λt R=>?_,q,A⟩;have n:=z.o.1 a0;by_cases e:t=h
     .subst e;exact n
     .exact dX _ _ _ (Q.o t h A7 V) n
    case measure=>simp[intOf];omega
   .go_wp2
    go_roundw
    case rel=>
     obtain⟨p,q⟩:=r.o;refine⟨i,h,rfl,C8,Z,A7,p,λt Y S=>?_,A⟩;have n:Op.bytesLess (nameAt l h) c.toList=false:=by
      cases L:Op.bytesLess (nameAt l h) c.toList
      .rfl
      .have:=z.o.2 L;omega
     by_cases e:t=h
     .subst e;exact n
     .cases L:Op.bytesLess (nameAt l t) c.toList
      .rfl
      .rw[dX _ _ _ (Q.o h t A7 S) L] at n;cases n
    case measure=>simp[intOf];omega
  .have a1:i=j:=A7;subst a1;have X:Hid (Place l c.toList i):=⟨T,r.o.1,r.o.2⟩;clear r;by_cases M:i<l.length
   .obtain⟨b,o,cs,rfl,hb,f,D,E,rfl,F⟩:=P.kept d i M;obtain⟨k,m⟩:=aj (l.getD i Qz.zero);rw[<-m] at f;have G:=Kz m;clear m F;have s:=f 0 _ rfl;have H:=f 1 _ rfl;have I:=f 2 _ rfl;simp only[Qp] at s;clear f;have J:g<wr.heap.size:=Px y d.size;have K:wr.cell? ⟨g,1,none⟩=some (.func (.func 82) #[] #[]):=by rw[d.cell y];exact O
    have a2:(i:Int)<l.length:=A7;go_wp2_with fail
    refine (vC _ g k D E c J K).mono ?_;rintro e w1 ⟨rfl,v⟩;have x:nameAt l i=k.name.toList:=by unfold nameAt;rw[<-G.o]
    have z:Hid (pK k.name.toList c.toList=0↔nameAt l i=c.toList):=by rw[x];exact AX
    clear s H I x;generalize pK k.name.toList c.toList=W at *;have A:=d.trans v;clear d v;go_wp2
    go_ret2
    refine⟨Found.mk i _ rfl X.o ?_,A⟩;rw[<-z.o];simp[M]
   .have a2:¬(i:Int)<l.length:=A7;go_wp2
    go_ret2
    exact⟨Found.mk i false rfl X.o (by simp;intro h;exact QK h M),d⟩
theorem Lm(w:QX)(a:QW)(cap:Nat)(l:List Qz)(b:QV)(h:l.length<=1048576)(i:il l)(j:dS w a l):
  Calls prog 83 #[.agg #[.slice a l.length cap,.func (.func 82) #[] #[]],.string b] w
   λe w'=>Found l b.toList e/\K_ w w':=by
 have c:K_ w (w.alloc (.cells #[.slice a l.length cap,.func (.func 82) #[] #[]] 98)):=ai _ _;go_enter func83,ntmps83
 go_wp2_with fail
 refine (FL _ w.heap.size a cap l b h i A9 A9 (j.kept c)).mono ?_;rintro e w1 ⟨k,m⟩;obtain⟨p,n,rfl,d,f⟩:=k;have⟨q,r⟩:=aJ d f;clear d f;go_wp2
 go_ret2
 exact⟨Found.mk p n rfl q.o r.o,c.trans m⟩
