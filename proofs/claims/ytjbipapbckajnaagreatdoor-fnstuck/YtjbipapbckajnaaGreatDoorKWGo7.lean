import Derived.Test.YtjbipapbckajnaaGreatDoorKWGo5
import Derived.Test.YtjbipapbckajnaaGreatDoorKVCirc
import Derived.Laws.EntriesVeiled
set_option maxRecDepth 100000
set_option maxHeartbeats 25600000
namespace Go.Proofs.YtjbipapbckajnaaGreatDoor
open Go.RowKit Go.Proofs.Tryz
def Cy(l:List Qq)(p:Qq->Prop)(k:Nat):Prop:=∀j,j<k->¬p (l.getD j Qq.zero)
def sU(l:List Qq)(p:Qq->Prop):Prop:=∃i,i<l.length/\p (l.getD i Qq.zero)
def JD(l:List Qq)(p:Qq->Prop)(r:Int):Prop:=
 (∃i,i<l.length/\r= (i:Int)/\p (l.getD i Qq.zero))\/(r= -1/\Cy l p l.length)
def jy(d:Qq):Prop:=¬jo d.name
def nO(d:Qq):Prop:=¬gW ⟨d.cost,d.steps⟩
theorem xm(w:Pv)(d:Qq)(a:Pt)(f:Nat)(m:d.Fits):
  Calls prog 94 #[.agg #[.string d.name,.a d.cost,.slice a d.steps.length f]] w λe w'=>Says e (jy d)/\K_ w w':=by
 have h:K_ w (w.alloc (.cells #[.string d.name,.a d.cost,.slice a d.steps.length f] 88)):=ah _ _;go_enter func94,ntmps94
 go_wp2_with fail
 refine (mP _ d.name m.name).mono ?_;rintro e p ⟨b,i⟩;have j:=h.trans i;clear h i;rcases b.cases with⟨rfl,k⟩|⟨rfl,l⟩
 .have c:=Kz k;clear k b;go_wp2
  go_ret
  exact⟨Says.no λn=>n c.o,j⟩
 .have c:=Kz l;clear l b;go_wp2
  go_ret
  exact⟨Says.yes c.o,j⟩
theorem yY(w:Pv)(d:Qq)(a:Pt)(b:Nat)(i:d.Fits)(n:Steps w a d.steps):
  Calls prog 96 #[.agg #[.string d.name,.a d.cost,.slice a d.steps.length b]] w λe w'=>Says e (nO d)/\K_ w w':=by
 have c:K_ w (w.alloc (.cells #[.string d.name,.a d.cost,.slice a d.steps.length b] 88)):=ah _ _;go_enter func96,ntmps96
 go_wp2_with fail
 refine (qX _ d.cost a b d.steps i.steps i.each (n.kept c)).mono ?_;rintro e q ⟨f,j⟩;have k:=c.trans j;clear c j;rcases f.cases with⟨rfl,l⟩|⟨rfl,m⟩
 .have h:=Kz l;clear l f;go_wp2
  go_ret
  exact⟨Says.no λp=>p h.o,k⟩
 .have h:=Kz m;clear m f;go_wp2
  go_ret
  exact⟨Says.yes h.o,k⟩
theorem EH(w:Pv)(a:Pt)(C:Nat)(l:List Qq)(D:l.length<=maxLen)(E:∀c∈l,c.Fits)(F:bN w a l):
  Calls prog 140 #[.slice a l.length C,.func (.func 94) #[] #[]] w λe w'=>(∃r,e= .returned (.a r)/\JD l jy r)/\K_ w w':=by
 unfold maxLen at D;go_enter func140,ntmps140
 go_wp2
 go_loopw [8] (λi wr=>∃k:Nat,k<=l.length/\i= .a k/\K_ w wr/\Cy l jy k) (λi _=>l.length-(intOf i).toNat)
 case atStart=>exact⟨0,NS _,rfl,K_.refl _,λj h=>aT h⟩
 case round=>
  obtain⟨k,N,rfl,f,q⟩:=hrel;have s:=Kz q;clear q;by_cases m:k<l.length
  .obtain⟨b,o,O,rfl,P,d,G,H,rfl,I⟩:=F.kept f k m;have t:=E (l.getD k Qq.zero) (by simp[List.getD,m]);obtain⟨c,n⟩:=ai (l.getD k Qq.zero);rw[<-n] at d t I;have v:=Kz n;clear n;have x:=d 0 _ rfl;have J:=d 1 _ rfl;have K:=d 2 _ rfl;simp only[OJ] at x;clear d;go_wp2_with fail
   refine (xm _ c G H t).mono ?_;rintro e Q ⟨p,y⟩;have z:=f.trans y;clear x J K f y;rcases p.cases with⟨rfl,A⟩|⟨rfl,B⟩
   .have L:=Kz A;clear A p;go_wp2
    go_ret
    exact⟨⟨k,rfl,Or.inl ⟨k,m,rfl,by rw[<-v.o];exact L.o⟩⟩,z⟩
   .have M:=Kz B;clear B p;go_wp2
    go_roundw
    case rel=>
     refine⟨k+1,A7,C8,z,λj h=>?_⟩;by_cases e:j=k
     .subst e;rw[<-v.o];exact M.o
     .exact s.o j A7
    case measure=>simp[intOf];omega
  .go_wp2
   go_ret
   exact⟨⟨-1,rfl,Or.inr ⟨rfl,λj h=>s.o j A7⟩⟩,f⟩
theorem Iu(w:Pv)(a:Pt)(D:Nat)(l:List Qq)(E:l.length<=maxLen)(F:∀c∈l,c.Fits)(G:bN w a l):
  Calls prog 140 #[.slice a l.length D,.func (.func 96) #[] #[]] w λe w'=>(∃r,e= .returned (.a r)/\JD l nO r)/\K_ w w':=by
 unfold maxLen at E;go_enter func140,ntmps140
 go_wp2
 go_loopw [8] (λi wr=>∃k:Nat,k<=l.length/\i= .a k/\K_ w wr/\Cy l nO k) (λi _=>l.length-(intOf i).toNat)
 case atStart=>exact⟨0,NS _,rfl,K_.refl _,λj h=>aT h⟩
 case round=>
  obtain⟨k,N,rfl,f,q⟩:=hrel;have s:=Kz q;clear q;by_cases m:k<l.length
  .obtain⟨b,o,O,rfl,P,d,H,I,rfl,t⟩:=G.kept f k m;have v:=F (l.getD k Qq.zero) (by simp[List.getD,m]);obtain⟨c,n⟩:=ai (l.getD k Qq.zero);rw[<-n] at d v t;have x:=Kz n;clear n;have y:=d 0 _ rfl;have J:=d 1 _ rfl;have K:=d 2 _ rfl;simp only[OJ] at y;clear d;go_wp2_with fail
   refine (yY _ c H I v t).mono ?_;rintro e Q ⟨p,z⟩;have A:=f.trans z;clear y J K f z;rcases p.cases with⟨rfl,B⟩|⟨rfl,C⟩
   .have L:=Kz B;clear B p;go_wp2
    go_ret
    exact⟨⟨k,rfl,Or.inl ⟨k,m,rfl,by rw[<-x.o];exact L.o⟩⟩,A⟩
   .have M:=Kz C;clear C p;go_wp2
    go_roundw
    case rel=>
     refine⟨k+1,A7,C8,A,λj h=>?_⟩;by_cases e:j=k
     .subst e;rw[<-x.o];exact M.o
     .exact s.o j A7
    case measure=>simp[intOf];omega
  .go_wp2
   go_ret
   exact⟨⟨-1,rfl,Or.inr ⟨rfl,λj h=>s.o j A7⟩⟩,f⟩
theorem zf(w:Pv)(a:Pt)(f:Nat)(l:List Qq)(n:l.length<=maxLen)(p:∀c∈l,c.Fits)(q:bN w a l):
  Calls prog 93 #[.slice a l.length f,.func (.func 94) #[] #[]] w λe w'=>Says e (sU l jy)/\K_ w w':=by
 go_enter func93,ntmps93
 go_wp2_with fail
 refine (EH _ a f l n p q).mono ?_;rintro e v ⟨⟨r,rfl,h⟩,j⟩;have k:=Kz h;clear h;by_cases m:0<=r
 .have s:decide (0<=r)=true:=by simpa using m
  go_wp2
  go_ret
  exact⟨Says.yes (by rcases k.o with⟨i,b,_,d⟩ | ⟨rfl,_⟩;exact⟨i,b,d⟩;omega),j⟩
 .have s:decide (0<=r)=false:=by simpa using m
  go_wp2
  go_ret
  exact⟨Says.no (by rcases k.o with⟨i,b,rfl,d⟩ | ⟨rfl,t⟩;omega;exact λ⟨i,b,d⟩=>t i b d),j⟩
theorem BN(w:Pv)(a:Pt)(f:Nat)(l:List Qq)(n:l.length<=maxLen)(p:∀c∈l,c.Fits)(q:bN w a l):
  Calls prog 93 #[.slice a l.length f,.func (.func 96) #[] #[]] w λe w'=>Says e (sU l nO)/\K_ w w':=by
 go_enter func93,ntmps93
 go_wp2_with fail
 refine (Iu _ a f l n p q).mono ?_;rintro e v ⟨⟨r,rfl,h⟩,j⟩;have k:=Kz h;clear h;by_cases m:0<=r
 .have s:decide (0<=r)=true:=by simpa using m
  go_wp2
  go_ret
  exact⟨Says.yes (by rcases k.o with⟨i,b,_,d⟩ | ⟨rfl,_⟩;exact⟨i,b,d⟩;omega),j⟩
 .have s:decide (0<=r)=false:=by simpa using m
  go_wp2
  go_ret
  exact⟨Says.no (by rcases k.o with⟨i,b,rfl,d⟩ | ⟨rfl,t⟩;omega;exact λ⟨i,b,d⟩=>t i b d),j⟩
def qU(l:List Qq)(i:Nat):Prop:=Op.bytesLess (l.getD i Qq.zero).name.toList (l.getD (i+1) Qq.zero).name.toList=false
def iL(l:List Qq):Prop:=∃i,i+1<l.length/\qU l i
def Gb(l:List Qq)(k:Nat):Prop:=∀j,j+1<k->¬qU l j
def bF(l:List Qq)(c:Int):Prop:=
 (60<l.length/\c=1)\/(¬60<l.length/\sU l jy/\c=2)\/(¬60<l.length/\¬sU l jy/\iL l/\c=3)\/
 (¬60<l.length/\¬sU l jy/\¬iL l/\sU l nO/\c=4)\/(¬60<l.length/\¬sU l jy/\¬iL l/\¬sU l nO/\c=0)
theorem bF.unique{l:List Qq}{c f:Int}(j:bF l c)(k:bF l f):c=f:=by
 rcases j with⟨a,rfl⟩ | ⟨a,d,rfl⟩ | ⟨a,d,h,rfl⟩ | ⟨a,d,h,m,rfl⟩ | ⟨a,d,h,m,rfl⟩ <;>
  rcases k with⟨b,rfl⟩ | ⟨b,e,rfl⟩ | ⟨b,e,i,rfl⟩ | ⟨b,e,i,n,rfl⟩ | ⟨b,e,i,n,rfl⟩ <;> first | rfl | contradiction
theorem mZ(w:Pv)(a:Pt)(C:Nat)(l:List Qq)(hl:l.length<=maxLen)(U:∀s∈l,s.Fits)(J:bN w a l):
  Calls prog 25 #[.agg #[.slice a l.length C]] w λe w'=>(∃c,e= .returned (.a c)/\bF l c)/\K_ w w':=by
 unfold maxLen at hl;have q:K_ w (w.alloc (.cells #[.slice a l.length C] 25)):=ah _ _;by_cases a6:(60:Int)<l.length
 .go_enter func25,ntmps25
  go_wp2
  go_ret
  exact⟨⟨1,rfl,Or.inl ⟨A7,rfl⟩⟩,q⟩
 .have a2:decide ((60:Int)<l.length)=false:=by simpa using a6
  go_enter func25,ntmps25
  go_wp2
  clear a2;go_loopw [3] (λi wr=>∃k:Nat,k<=l.length/\i= .a k/\K_ (w.alloc (.cells #[.slice a l.length C] 25)) wr/\Cy l jy k) (λi _=>l.length-(intOf i).toNat)
  case atStart=>exact⟨0,NS _,rfl,K_.refl _,λj r=>aT r⟩
  case round=>
   obtain⟨k,V,rfl,d,t⟩:=hrel;have p:=Kz t;clear t;obtain⟨D,E⟩:=d.rules;have x:=d.size;simp only[OC] at x;by_cases m:k<l.length
   .obtain⟨b,o,W,rfl,X,f,L,M,rfl,y⟩:=(J.kept q).kept d k m;have B:=U (l.getD k Qq.zero) (by simp[List.getD,m]);obtain⟨K,z⟩:=ai (l.getD k Qq.zero);rw[<-z] at f B;have F:=Kz z;clear z;have v:=f 0 _ rfl;simp only[OJ] at v;clear f y;go_wp2_with fail
    refine (nR _ K.name B.name).mono ?_;rintro e w1 ⟨A,G⟩;have a7:=Eq.symm G;clear G;subst a7;rcases A.cases with⟨rfl,H⟩|⟨rfl,I⟩
    .have N:=Kz H;clear H A v;go_wp2
     go_roundw
     case rel=>
      refine⟨k+1,A7,C8,d,λj r=>?_⟩;by_cases e:j=k
      .subst e;rw[<-F.o];exact λh=>h N.o
      .exact p.o j A7
     case measure=>simp[intOf];omega
    .have O:=Kz I;clear I A v;go_wp2
     go_ret
     exact⟨⟨2,rfl,Or.inr (Or.inl ⟨A7,⟨k,m,by rw[<-F.o];exact O.o⟩,rfl⟩)⟩,q.trans d⟩
   .have P:Hid (¬sU l jy):=λ⟨i,Y,h⟩=>p.o i A7 h
    clear p;go_wp2
    clear D E x;go_loopw [4] (λi Q=>∃n:Nat,1<=n/\n<=l.length+1/\i= .a n/\K_ (w.alloc (.cells #[.slice a l.length C] 25)) Q/\Gb l n) (λi _=>l.length+2-(intOf i).toNat)
    case atStart=>exact⟨1,A7,A7,rfl,d,λj r=>Pg r A7⟩
    case round=>
     clear d V m;obtain⟨n,a9,b0,rfl,d,t⟩:=hrel;have p:=Kz t;clear t;obtain⟨D,E⟩:=d.rules;have x:=d.size;simp only[OC] at x;by_cases m:n<l.length
     .obtain⟨b,o,W,rfl,X,f,L,M,rfl,y⟩:=(J.kept q).kept d (n-1) A7;obtain⟨b',o',b1,Z,b2,R,ba,da,rfl,a8⟩:=(J.kept q).kept d n m;simp only[OE,Po,and_true] at Z;obtain⟨rfl,rfl⟩:=Z;obtain⟨a0,S⟩:=ai ((l.getD (n-1) Qq.zero));obtain⟨a1,T⟩:=ai ((l.getD n Qq.zero));rw[<-S] at f;rw[<-T] at R;have HX:Hid (l.getD (n-1) Qq.zero=a0):=S.symm;have a3:Hid (l.getD (n-1+1) Qq.zero=a1):=by rw[T,show n-1+1=n by omega];exact rfl
      clear S T y a8;have v:=f 0 _ rfl;have d0:=R 0 _ rfl;simp only[OJ] at v d0;clear f R;have i0:(0:Int)<=(n:Int)-1:=A7;have i1:(n:Int)-1<(l.length:Int):=A7;cases a4:Op.bytesLess a0.name.toList a1.name.toList
      .go_wp2
       go_region
       all_goals
        go_wp2
        go_ret
        exact⟨⟨3,rfl,Or.inr (Or.inr (Or.inl ⟨A7,P.o,⟨n-1,A7,by unfold qU;rw[HX.o,a3.o];exact a4⟩,rfl⟩))⟩,q.trans (by repeat (first | apply K_.drew | exact d))⟩
      .go_wp2
       go_region
       all_goals
        go_wp2
        go_roundw
        case rel=>
         refine⟨n+1,A7,A7,C8,by repeat (first | apply K_.drew | exact d),λj r=>?_⟩;by_cases e:j=n-1
         .subst e;unfold qU;rw[HX.o,a3.o,a4];simp
         .exact p.o j A7
        case measure=>simp[intOf];omega
     .have HC:Hid (¬iL l):=λ⟨i,Y,h⟩=>p.o i A7 h
      clear p;go_wp2
      clear D E x;go_loopw [5] (λi Q=>∃k:Nat,k<=l.length/\i= .a k/\K_ (w.alloc (.cells #[.slice a l.length C] 25)) Q/\Cy l nO k) (λi _=>l.length-(intOf i).toNat)
      case atStart=>exact⟨0,NS _,rfl,d,λj r=>aT r⟩
      case round=>
       clear d m;obtain⟨k,V,rfl,d,t⟩:=hrel;have p:=Kz t;clear t;obtain⟨D,E⟩:=d.rules;have x:=d.size;simp only[OC] at x;by_cases m:k<l.length
       .obtain⟨b,o,W,rfl,X,f,L,M,rfl,y⟩:=(J.kept q).kept d k m;have B:=U (l.getD k Qq.zero) (by simp[List.getD,m]);obtain⟨K,z⟩:=ai (l.getD k Qq.zero);rw[<-z] at f B y;have F:=Kz z;clear z;have v:=f 0 _ rfl;have c1:=f 1 _ rfl;have c2:=f 2 _ rfl;simp only[OJ] at v;clear f;go_wp2_with fail
        refine (fV _ K.cost L M K.steps B.steps B.each y).mono ?_;rintro e w1 ⟨A,G⟩;have a5:=d.trans G;clear d G v c1 c2 y D E;rcases A.cases with⟨rfl,H⟩|⟨rfl,I⟩
        .have N:=Kz H;clear H A;go_wp2
         go_roundw
         case rel=>
          refine⟨k+1,A7,C8,a5,λj r=>?_⟩;by_cases e:j=k
          .subst e;rw[<-F.o];exact λh=>h N.o
          .exact p.o j A7
         case measure=>simp[intOf];omega
        .have O:=Kz I;clear I A;go_wp2
         go_ret
         exact⟨⟨4,rfl,Or.inr (Or.inr (Or.inr (Or.inl ⟨A7,P.o,HC.o,⟨k,m,by rw[<-F.o];exact O.o⟩,rfl⟩)))⟩,q.trans a5⟩
       .go_wp2
        go_ret
        exact⟨⟨0,rfl,Or.inr (Or.inr (Or.inr (Or.inr ⟨A7,P.o,HC.o,λ⟨i,Y,h⟩=>p.o i A7 h,rfl⟩)))⟩,q.trans d⟩
def FW :Prop:=∀(w:Pv) (a:Pt) (cap:Nat) (l:List Qq),l.length<=maxLen->bN w a l->
 Calls prog 95 #[.agg #[.slice a l.length cap,.func (.func 99) #[] #[]]] w λe w'=>Says e (¬iL l)/\K_ w w'
theorem Tryz.FN :(prog.info? 100).map (·.size)=some 2:=C9
theorem EM(w:Pv)(c:Array Pw)(t:TypeId):(w.alloc (.cells c t)).rangeAt w.heap.size 0 c.toList:=λj v a=>by
 rw[Ow,World.cell?_alloc_mark];simpa using a
theorem sD(w:Pv)(a:Pt)(n b:Nat):
  Calls prog 46 #[.agg #[.slice a n b]] w λe w'=>e= .returned (.agg #[.slice a n b,.func (.func 99) #[] #[]])/\K_ w w':=by
 go_enter func46,ntmps46
 go_wp2
 have c:=EM (w.alloc (.cells #[.slice a n b] 25)) #[.slice a n b,.func (.func 99) #[] #[]] 100;rw[OC] at c;exact X_ [.slice a n b,.func (.func 99) #[] #[]] _ results46 rfl c underlying100 rfl Tryz.FN rfl ⟨rfl,(ah _ _).alloc _⟩
theorem nJ(C:Hid FW)(w:Pv)(a:Pt)(d:Nat)(l:List Qq)(j:l.length<=maxLen)(z:∀s∈l,s.Fits)(r:bN w a l):
  Calls prog 44 #[.agg #[.slice a l.length d]] w λe w'=>(∃c,e= .returned (.a c)/\bF l c)/\K_ w w':=by
 have D:=j;unfold maxLen at D;have t:K_ w (w.alloc (.cells #[.slice a l.length d] 25)):=ah _ _;by_cases I:(60:Int)<l.length
 .go_enter func44,ntmps44
  go_wp2
  go_ret
  exact⟨⟨1,rfl,Or.inl ⟨A7,rfl⟩⟩,t⟩
 .go_enter func44,ntmps44
  go_wp2_with fail
  refine (zf _ a d l j z (r.kept t)).mono ?_;rintro e E ⟨b,i⟩;have k:=t.trans i;rcases b.cases with⟨rfl,f⟩|⟨rfl,h⟩
  .have F:=Kz f;clear f b;go_wp2
   go_ret
   exact⟨⟨2,rfl,Or.inr (Or.inl ⟨A7,F.o,rfl⟩)⟩,k⟩
  .have v:=Kz h;clear h b;have A:E.cell? ⟨w.heap.size,0,none⟩=some (.slice a l.length d):=by rw[i.cell A9];simp
   go_wp2_with fail
   refine (sD _ a l.length d).mono ?_;rintro e J ⟨rfl,m⟩;have n:=k.trans m;go_wp2_with fail
   refine (bC C _ a d l j (r.kept n)).mono ?_;rintro e G ⟨b,p⟩;have x:=n.trans p;rcases b.cases with⟨rfl,f⟩|⟨rfl,h⟩
   .have q:=Kz f;clear f b;have K:G.cell? ⟨w.heap.size,0,none⟩=some (.slice a l.length d):=by rw[((i.trans m).trans p).cell A9];simp
    clear A i m p k n;go_wp2_with fail
    refine (BN _ a d l j z (r.kept x)).mono ?_;rintro e L ⟨b,H⟩;have B:=x.trans H;rcases b.cases with⟨rfl,f⟩|⟨rfl,h⟩
    .have y:=Kz f;clear f b;go_wp2
     go_ret
     exact⟨⟨4,rfl,Or.inr (Or.inr (Or.inr (Or.inl ⟨A7,v.o,q.o,y.o,rfl⟩)))⟩,B⟩
    .have y:=Kz h;clear h b;go_wp2
     go_ret
     exact⟨⟨0,rfl,Or.inr (Or.inr (Or.inr (Or.inr ⟨A7,v.o,q.o,y.o,rfl⟩)))⟩,B⟩
   .have q:=Kz h;clear h b i m p k n A;go_wp2
    go_ret
    exact⟨⟨3,rfl,Or.inr (Or.inr (Or.inl ⟨A7,v.o,Classical.not_not.1 q.o,rfl⟩))⟩,x⟩
theorem DX(w:Pv)(cost j:Int)(a d:Pt)(t N:Nat)(l:List Xj)(ans:List Xq)(D:l.length<=maxLen)(E:∀s∈l,s.Fits)(F:Steps w a l)
  (O:ans.length<=maxLen) (_has:∀c∈ans,c.text.size<=maxLen) (_hD:eU w d ans)
  (P:Hid (¬(om cost l j/\ans.length= (kX l j).asks.length))):
  Calls prog 123 #[.agg #[.a cost,.slice a l.length t],.a j,.slice d ans.length N] w λe w'=>(∃g,e= .returned (.agg g.cells.toArray)/\mK cost l j ans g)/\K_ w w':=by
 have Q:=D;have R:=O;unfold maxLen at Q R;have v:K_ w ((w.alloc (.cells #[.a cost,.slice a l.length t] 73)).alloc (.cells #[.a 0,.bool false,.a 0,.string ⟨#[]⟩] 186)):=(ah _ _).alloc _;go_enter func123,ntmps123
 go_wp2_with fail
 refine (fV _ cost a t l D E (F.kept v)).mono ?_;rintro e k ⟨B,p⟩;have q:=v.trans p;have G:Row k (w.heap.size+1) 4:=Row.kept (by have:=Row.made (w.alloc (.cells #[.a cost,.slice a l.length t] 73)) #[.a 0,.bool false,.a 0,.string ⟨#[]⟩] 186;simpa using this) p;have r:=Kz G;clear G;obtain⟨a1,a2⟩:=p.rules;have S:=p.size;simp only[OC] at S;have x0:w.heap.size<k.heap.size:=A7;have x1:w.heap.size+1<k.heap.size:=A7;rcases B.cases with⟨rfl,H⟩|⟨rfl,I⟩
 .have x:=Kz H;clear H B v p;by_cases T:0<=j
  .cases J:decide (j<=(l.length:Int)-1)
   .have U:(l.length:Int)-1<j:=by simpa using J
    go_wp2
    have i:=NU k (w.heap.size+1) 0 b_.none.cells (r.o.there (o:=0) (m:=4) (NQ _));exact X_ b_.none.cells _ results123 rfl i underlying186 rfl Tryz.dZ rfl ⟨⟨_,rfl,Or.inl ⟨λh=>(by have:=h.2.1;omega),rfl⟩⟩,K_.setCells (g:=w.heap.size+1) A7 b_.none.cells 0 q⟩
   .have U:j<=(l.length:Int)-1:=by simpa using J
    obtain⟨n,rfl⟩:=Int.eq_ofNat_of_zero_le T;have C:n<l.length:=A7;obtain⟨b,o,cs,rfl,hb,f,aa,ca,ac,cc,rfl,V,W,X⟩:=F.kept q n C;have Y:=E (l.getD n Xj.zero) (by simp[List.getD,C]);obtain⟨s,y⟩:=ai (l.getD n Xj.zero);rw[<-y] at f Y V W X;have z:Hid (kX l n=s):=by rw[y];show Hid (l.getD (n:Int).toNat Xj.zero=_);rw[Int.toNat_natCast];exact rfl
    have a3:Hid (lH s l.length):=by rw[y];exact x.o.2.2 n C
    clear y;have Z:=f 0 _ rfl;have c1:=f 1 _ rfl;have c2:=f 2 _ rfl;have c3:=f 3 _ rfl;have c4:=f 4 _ rfl;have K:=f 5 _ rfl;have c6:=f 6 _ rfl;have c7:=f 7 _ rfl;simp only[OJ] at Z;clear f;cases A:s.fin
    .rw[A] at K;have L:Hid (om cost l n):=⟨x.o,⟨A7,A7⟩,by rw[z.o];exact A⟩;have M:ans.length≠s.asks.length:=λh=>P.out ⟨L.o,by rw[z.o];exact h⟩
     have a4:((ans.length:Int) != (s.asks.length:Int))=true:=D6;have a0:=Kz M;clear M;go_wp2
     have i:=NU k (w.heap.size+1) 0 b_.none.cells (r.o.there (o:=0) (m:=4) (NQ _));exact X_ b_.none.cells _ results123 rfl i underlying186 rfl Tryz.dZ rfl ⟨⟨_,rfl,Or.inr ⟨L.o,Or.inl ⟨λh=>a0.o (by have:=h.1;rw[z.o] at this;exact this),rfl⟩⟩⟩,K_.setCells (g:=w.heap.size+1) A7 b_.none.cells 0 q⟩
    .rw[A] at K;go_wp2
     have i:=NU k (w.heap.size+1) 0 b_.none.cells (r.o.there (o:=0) (m:=4) (NQ _));exact X_ b_.none.cells _ results123 rfl i underlying186 rfl Tryz.dZ rfl ⟨⟨_,rfl,Or.inl ⟨λh=>(by have:=h.2.2;rw[z.o,A] at this;cases this),rfl⟩⟩,K_.setCells (g:=w.heap.size+1) A7 b_.none.cells 0 q⟩
  .skip
   go_wp2
   have i:=NU k (w.heap.size+1) 0 b_.none.cells (r.o.there (o:=0) (m:=4) (NQ _));exact X_ b_.none.cells _ results123 rfl i underlying186 rfl Tryz.dZ rfl ⟨⟨_,rfl,Or.inl ⟨λh=>(by have:=h.2.1;omega),rfl⟩⟩,K_.setCells (g:=w.heap.size+1) A7 b_.none.cells 0 q⟩
 .have x:=Kz I;clear I B v p;go_wp2
  have i:=NU k (w.heap.size+1) 0 b_.none.cells (r.o.there (o:=0) (m:=4) (NQ _));exact X_ b_.none.cells _ results123 rfl i underlying186 rfl Tryz.dZ rfl ⟨⟨_,rfl,Or.inl ⟨λh=>x.o h.1,rfl⟩⟩,K_.setCells (g:=w.heap.size+1) A7 b_.none.cells 0 q⟩
theorem BZ(w:Pv)(cost A:Int)(a d:Pt)(M d2:Nat)(l:List Xj)(ans:List Xq)(hl:l.length<=maxLen)(hs:∀s∈l,s.Fits)(hS:Steps w a l)
  (d3:ans.length<=maxLen) (d4:∀c∈ans,c.text.size<=maxLen) (V:eU w d ans)
  (hF:om cost l A) (hE:ans.length= (kX l A).asks.length):
  Calls prog 123 #[.agg #[.a cost,.slice a l.length M],.a A,.slice d ans.length d2] w λe w'=>(∃g,e= .returned (.agg g.cells.toArray)/\mK cost l A ans g)/\K_ w w':=by
 have⟨B,a5⟩:=aH hF hE;clear hF hE;have d5:=hl;have d6:=d3;unfold maxLen at d5 d6;have W:K_ w ((w.alloc (.cells #[.a cost,.slice a l.length M] 73)).alloc (.cells #[.a 0,.bool false,.a 0,.string ⟨#[]⟩] 186)):=(ah _ _).alloc _;go_enter func123,ntmps123
 go_wp2_with fail
 refine (fV _ cost a M l hl hs (hS.kept W)).mono ?_;rintro e f ⟨a6,F⟩;have C:=W.trans F;have a7:Row f (w.heap.size+1) 4:=Row.kept (by have:=Row.made (w.alloc (.cells #[.a cost,.slice a l.length M] 73)) #[.a 0,.bool false,.a 0,.string ⟨#[]⟩] 186;simpa using this) F;have G:=Kz a7;clear a7;obtain⟨f6,f7⟩:=F.rules;have d7:=F.size;simp only[OC] at d7;have x0:w.heap.size<f.heap.size:=A7;have x1:w.heap.size+1<f.heap.size:=A7;rcases a6.cases with⟨rfl,a8⟩|⟨rfl,d8⟩
 .have HV:=Kz a8;clear a8 a6 W F;have p1:0<=A:=B.o.2.1.1;have p2:A<l.length:=B.o.2.1.2;obtain⟨v,rfl⟩:=Int.eq_ofNat_of_zero_le p1;have X:v<l.length:=A7;obtain⟨b,o,cs,rfl,hb,q,H,I,J,K,rfl,hA,hC,d9⟩:=hS.kept C v X;have a9:=hs (l.getD v Xj.zero) (by simp[List.getD,X]);obtain⟨s,N⟩:=ai (l.getD v Xj.zero);rw[<-N] at q a9 hA hC d9;have x:Hid (kX l v=s):=by rw[N];show Hid (l.getD (v:Int).toNat Xj.zero=_);rw[Int.toNat_natCast];exact rfl
  have e0:Hid (lH s l.length):=by rw[N];exact HV.o.2.2 v X
  clear N;have c0:=q 0 _ rfl;have c1:=q 1 _ rfl;have e1:=q 2 _ rfl;have e2:=q 3 _ rfl;have e3:=q 4 _ rfl;have c5:=q 5 _ rfl;have c6:=q 6 _ rfl;have c7:=q 7 _ rfl;simp only[OJ] at c0;clear q;have b0:s.fin=false:=by have:=B.o.2.2;rw[x.o] at this;exact this
  rw[b0] at c5;have O:Hid (ans.length=s.asks.length):=by have:=a5.o;rw[x.o] at this;exact this
  have f8:((ans.length:Int) != (s.asks.length:Int))=false:=by have:=O.o;simp;omega
  have D:Hid (om cost l v):=B.o;have b2:Hid (Gj s l.length):=e0.o.2 b0;clear B a5;have P:K_ f (f.alloc (.cells #[.slice H s.asks.length I,.a s.on,.slice J s.cases.length K,.a s.els,.a s.fall,.bool false,.bool s.bad,.string s.give] 176)):=ah _ _;have Y:=C.trans P;have e4:=Kz (G.o.kept P);go_wp2_with (go_at_call 65;refine (xZ _ _ _ _ A7 A7).mono ?_;rintro e w' ⟨rfl,b3⟩;have e5:=Eq.symm b3;clear b3;subst e5)
  clear c0 c1 e1 e2 e3 c5 c6 c7;go_loop [8] (λi=>∃k:Nat,k<=ans.length/\i= .a k/\mR ans pU k) (λi=>ans.length-(intOf i).toNat)
  case atStart=>exact⟨0,NS _,rfl,λj r=>aT r⟩
  case round=>
   obtain⟨k,Z,rfl,y⟩:=hrel;have h:=Kz y;clear y;by_cases Q:k<ans.length
   .obtain⟨b1,o1,rfl,e6,z⟩:=V.kept Y k Q;have b4:(ans.getD k Xq.zero).text.size<=maxLen:=d4 _ (by simp[List.getD,Q]);obtain⟨c,n⟩:=ai (ans.getD k Xq.zero);rw[<-n] at z b4;have t:=Kz n;clear n;unfold maxLen at b4;have d1:=z 1 _ rfl;clear z;by_cases f9:(200:Int)<c.text.size
    .skip
     go_wp2
     have p:=World.rangeAt_alloc (NU f (w.heap.size+1) 0 b_.none.cells (G.o.there (o:=0) (m:=4) (NQ _))) (.cells #[.slice H s.asks.length I,.a s.on,.slice J s.cases.length K,.a s.els,.a s.fall,.bool false,.bool s.bad,.string s.give] 176);exact X_ b_.none.cells _ results123 rfl p underlying186 rfl Tryz.dZ rfl ⟨⟨_,rfl,Or.inr ⟨D.o,by rw[x.o];exact Or.inl ⟨λa0=>a0.2 ⟨k,Q,by unfold pU;rw[<-t.o];omega⟩,rfl⟩⟩⟩,K_.alloc (K_.setCells (g:=w.heap.size+1) A7 b_.none.cells 0 C) _⟩
    .go_wp2
     go_round
     case rel=>
      refine⟨k+1,A7,C8,λj r=>?_⟩;by_cases e:j=k
      .subst e;unfold pU;rw[<-t.o];omega
      .exact h.o j A7
     case measure=>simp[intOf];omega
   .have L:Hid (yw s ans):=⟨O.o,λ⟨i,hi,a0⟩=>h.o i A7 a0⟩;clear h;go_wp2
    go_loop [9] (λi=>∃k:Nat,k<=ans.length/\i= .a k/\mR ans iG k) (λi=>ans.length-(intOf i).toNat)
    case atStart=>exact⟨0,NS _,rfl,λj r=>aT r⟩
    case round=>
     clear Z Q;obtain⟨k,Z,rfl,y⟩:=hrel;have h:=Kz y;clear y;by_cases a1:k<ans.length
     .obtain⟨b1,o1,rfl,e6,z⟩:=V.kept Y k a1;obtain⟨c,n⟩:=ai (ans.getD k Xq.zero);rw[<-n] at z;have t:=Kz n;clear n;have d0:=z 0 _ rfl;simp only[OJ] at d0;clear z;cases R:c.fail
      .rw[R] at d0;go_wp2
       go_round
       case rel=>
        refine⟨k+1,A7,C8,λj r=>?_⟩;by_cases e:j=k
        .subst e;unfold iG;rw[<-t.o,R];simp
        .exact h.o j A7
       case measure=>simp[intOf];omega
      .rw[R] at d0;have HP:Hid (iG (ans.getD k Xq.zero)):=by rw[<-t.o];exact R
       cases b5:(s.fall == -1)
       .skip
        go_wp2
        have p:=World.rangeAt_alloc (NU f (w.heap.size+1) 0 [.a 0,.bool false,.a s.fall,.string ⟨#[]⟩] (G.o.there (o:=0) (m:=4) (NQ _))) (.cells #[.slice H s.asks.length I,.a s.on,.slice J s.cases.length K,.a s.els,.a s.fall,.bool false,.bool s.bad,.string s.give] 176);exact X_ [.a 0,.bool false,.a s.fall,.string ⟨#[]⟩] _ results123 rfl p underlying186 rfl Tryz.dZ rfl ⟨⟨⟨0,false,s.fall,⟨#[]⟩⟩,rfl,Or.inr ⟨D.o,by rw[x.o];exact Or.inr ⟨L.o,Or.inl ⟨k,a1,HP.o,h.o,Or.inr ⟨by simpa using b5,rfl⟩⟩⟩⟩⟩,K_.alloc (K_.setCells (g:=w.heap.size+1) A7 [.a 0,.bool false,.a s.fall,.string ⟨#[]⟩] 0 C) _⟩
       .have b6:k<s.asks.length:=by have:=O.o;omega
        obtain⟨g0,o6,rfl,g1,e7⟩:=hA.kept P k b6;have e8:(s.asks.getD k ByteArray.empty).size<=20:=(b2.o.1.2.2.2.1 k b6).1.2.1;obtain⟨a2,hv⟩:=ai (s.asks.getD k ByteArray.empty);rw[<-hv] at e7 e8;have e9:=Kz hv;clear hv;go_wp2
        have p:=NU f (w.heap.size+1) 0 [.a 0,.bool true,.a 0,.string ((⟨#[98,101,108,111,119,32]⟩:Ps)++a2)] (G.o.there (o:=0) (m:=4) (NQ _));exact X_ [.a 0,.bool true,.a 0,.string ((⟨#[98,101,108,111,119,32]⟩:Ps)++a2)] _ results123 rfl (World.rangeAt_alloc p _) underlying186 rfl Tryz.dZ rfl ⟨⟨⟨0,true,0,_⟩,rfl,Or.inr ⟨D.o,by rw[x.o];exact Or.inr ⟨L.o,Or.inl ⟨k,a1,HP.o,h.o,Or.inl ⟨by simpa using b5,by unfold jY;rw[<-e9.o]⟩⟩⟩⟩⟩,K_.alloc (K_.setCells (g:=w.heap.size+1) A7 [.a 0,.bool true,.a 0,.string ((⟨#[98,101,108,111,119,32]⟩:Ps)++a2)] 0 C) _⟩
     .have a3:Hid (mR ans iG ans.length):=λj r=>h.o j A7
      clear h;cases S:((ans.length:Int) == 0)
      .have b7:ans.length≠0:=by simp at S;simpa using S
       have b8:=Kz b7;have f0:0<=s.on/\s.on<ans.length:=by have h1:=b2.o.1.2.2.2.2.2.2.2;have h2:=O.o;omega
       obtain⟨q1,q2⟩:=f0;clear b7;obtain⟨a4,b9⟩:=ai (mJ ans s.on);have T:=Kz b9;clear b9;have f1:s.on.toNat<ans.length:=A7;have f2:=a9.cases;unfold maxLen at f2;go_wp2
       go_loopw [10] (λi wr=>∃k:Nat,k<=s.cases.length/\i= .a k/\K_ (f.alloc (.cells #[.slice H s.asks.length I,.a s.on,.slice J s.cases.length K,.a s.els,.a s.fall,.bool false,.bool s.bad,.string s.give] 176)) wr/\CaseTo s a4 k) (λi _=>s.cases.length-(intOf i).toNat)
       case atStart=>exact⟨0,NS _,rfl,K_.refl _,λj r=>aT r⟩
       case round=>
        obtain⟨k,Z,rfl,E,y⟩:=hrel;have h:=Kz y;clear y;have k3:K_ w wr:=Y.trans E;obtain⟨g2,g3⟩:=E.rules;have f3:=E.size;simp only[OC] at f3;have c2:=Kz (e4.o.kept E);have v0:w.heap.size+1<f.heap.size+1:=A7;have v1:f.heap.size<f.heap.size+1:=A7;by_cases c3:k<s.cases.length
        .obtain⟨g4,o3,rfl,g5,U⟩:=(hC.kept P).kept E k c3;obtain⟨g6,o4,f4,g7,c4⟩:=V.kept k3 s.on.toNat f1;obtain⟨c,n⟩:=ai (s.cases.getD k bS.zero);rw[<-n] at U;have t:=Kz n;clear n;have f5:=U 0 _ rfl;have g8:=U 1 _ rfl;have d1:=c4 1 _ rfl;simp only[OJ] at f5;have c8:(ans.getD s.on.toNat Xq.zero).text=a4:=by have h1:=T.o;unfold mJ at h1;exact h1.symm
         rw[c8] at d1;subst f4;clear U c4 c8;cases c9:(c.text.toList == a4.toList)
         .go_wp2
          go_region
          all_goals
           go_wp2
           go_roundw
           case rel=>
            refine⟨k+1,A7,C8,by repeat (first | apply K_.drew | exact E),λj r=>?_⟩;by_cases e:j=k
            .subst e;unfold uo;rw[<-t.o];exact tZ c9
            .exact h.o j A7
           case measure=>simp[intOf];omega
         .go_wp2
          go_region
          all_goals
           go_wp2
           have p:=NU wr.drew (w.heap.size+1) 0 [.a 0,.bool false,.a c.goto,.string ⟨#[]⟩] (Row.there (Row.kept c2.o (K_.drew (K_.refl _))) (o:=0) (m:=4) (NQ _));exact X_ [.a 0,.bool false,.a c.goto,.string ⟨#[]⟩] _ results123 rfl p underlying186 rfl Tryz.dZ rfl ⟨⟨⟨0,false,c.goto,⟨#[]⟩⟩,rfl,Or.inr ⟨D.o,by rw[x.o];exact Or.inr ⟨L.o,Or.inr ⟨a3.o,c.goto,Or.inr ⟨b8.o,Or.inl ⟨k,c3,by unfold uo;rw[<-t.o,<-T.o];exact qD.1 c9,by rw[<-T.o];exact h.o,by unfold ES;rw[<-t.o]⟩⟩,rfl⟩⟩⟩⟩,K_.setCells (g:=w.heap.size+1) A7 [.a 0,.bool false,.a c.goto,.string ⟨#[]⟩] 0 k3.drew⟩
        .skip
         go_wp2
         have p:=NU wr (w.heap.size+1) 0 [.a 0,.bool false,.a s.els,.string ⟨#[]⟩] (c2.o.there (o:=0) (m:=4) (NQ _));exact X_ [.a 0,.bool false,.a s.els,.string ⟨#[]⟩] _ results123 rfl p underlying186 rfl Tryz.dZ rfl ⟨⟨⟨0,false,s.els,⟨#[]⟩⟩,rfl,Or.inr ⟨D.o,by rw[x.o];exact Or.inr ⟨L.o,Or.inr ⟨a3.o,s.els,Or.inr ⟨b8.o,Or.inr ⟨by rw[<-T.o];exact λj r=>h.o j A7,rfl⟩⟩,rfl⟩⟩⟩⟩,K_.setCells (g:=w.heap.size+1) A7 [.a 0,.bool false,.a s.els,.string ⟨#[]⟩] 0 k3⟩
      .skip
       go_wp2
       have p:=World.rangeAt_alloc (NU f (w.heap.size+1) 0 [.a 0,.bool false,.a s.els,.string ⟨#[]⟩] (G.o.there (o:=0) (m:=4) (NQ _))) (.cells #[.slice H s.asks.length I,.a s.on,.slice J s.cases.length K,.a s.els,.a s.fall,.bool false,.bool s.bad,.string s.give] 176);exact X_ [.a 0,.bool false,.a s.els,.string ⟨#[]⟩] _ results123 rfl p underlying186 rfl Tryz.dZ rfl ⟨⟨⟨0,false,s.els,⟨#[]⟩⟩,rfl,Or.inr ⟨D.o,by rw[x.o];exact Or.inr ⟨L.o,Or.inr ⟨a3.o,s.els,Or.inl ⟨by simp at S;simpa using S,rfl⟩,rfl⟩⟩⟩⟩,K_.alloc (K_.setCells (g:=w.heap.size+1) A7 [.a 0,.bool false,.a s.els,.string ⟨#[]⟩] 0 C) _⟩
 .exact Pg B.o.1 d8
