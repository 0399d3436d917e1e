import Derived.Test.YtlfofiaagibapaaGreatDoorKWGo5
import Derived.Test.YtlfofiaagibapaaGreatDoorKReadB
import Derived.Laws.EntriesVeiled
set_option maxRecDepth 100000
set_option maxHeartbeats 25600000
namespace Go.Proofs.YtlfofiaagibapaaGreatDoor
open Go.RowKit Go.Proofs.Tryz
def BA(l:List Qz)(p:Qz->Prop)(k:Nat):Prop:=∀j,j<k->¬p (l.getD j Qz.zero)
def r_(l:List Qz)(p:Qz->Prop):Prop:=∃i,i<l.length/\p (l.getD i Qz.zero)
def Io(l:List Qz)(p:Qz->Prop)(r:Int):Prop:=(∃i,i<l.length/\r= (i:Int)/\p (l.getD i Qz.zero))\/(r= -1/\BA l p l.length)
def jq(d:Qz):Prop:=¬jo d.name
def nJ(d:Qz):Prop:=¬gQ ⟨d.cost,d.steps⟩
theorem vZ(w:NN)(d:Qz)(a:NM)(f:Nat)(m:d.Fits):Calls prog 84 #[.agg #[.string d.name,.a d.cost,.slice a d.steps.length f]] w λe w'=>Says e (jq d)/\K_ w w':=by
 have h:K_ w (w.alloc (.cells #[.string d.name,.a d.cost,.slice a d.steps.length f] 33)):=ah _ _;go_enter func84,ntmps84
 go_wp2_with fail
 refine (mI _ d.name m.name).mono ?_;rintro e p ⟨b,i⟩;have j:=h.trans i;clear h i;rcases b.cases with⟨rfl,k⟩|⟨rfl,l⟩
 .have c:=Kz k;clear k b;go_wp2
  go_ret
  exact⟨Says.no λn=>n c.o,j⟩
 .have c:=Kz l;clear l b;go_wp2
  go_ret
  exact⟨Says.yes c.o,j⟩
theorem yl(w:NN)(d:Qz)(a:NM)(b:Nat)(i:d.Fits)(n:Steps w a d.steps):Calls prog 86 #[.agg #[.string d.name,.a d.cost,.slice a d.steps.length b]] w λe w'=>Says e (nJ d)/\K_ w w':=by
 have c:K_ w (w.alloc (.cells #[.string d.name,.a d.cost,.slice a d.steps.length b] 33)):=ah _ _;go_enter func86,ntmps86
 go_wp2_with fail
 refine (qI _ d.cost a b d.steps i.steps i.each (n.kept c)).mono ?_;rintro e q ⟨f,j⟩;have k:=c.trans j;clear c j;rcases f.cases with⟨rfl,l⟩|⟨rfl,m⟩
 .have h:=Kz l;clear l f;go_wp2
  go_ret
  exact⟨Says.no λp=>p h.o,k⟩
 .have h:=Kz m;clear m f;go_wp2
  go_ret
  exact⟨Says.yes h.o,k⟩
theorem Dy(w:NN)(a:NM)(C:Nat)(l:List Qz)(D:l.length<=maxLen)(E:∀c∈l,c.Fits)(F:bQ w a l):Calls prog 139 #[.slice a l.length C,.func (.func 84) #[] #[]] w λe w'=>(∃r,e=.returned (.a r)/\Io l jq r)/\K_ w w':=by
 unfold maxLen at D;go_enter func139,ntmps139
 go_wp2
 go_loopw [8] (λi wr=>∃k:Nat,k<=l.length/\i=.a k/\K_ w wr/\BA l jq k) (λi _=>l.length-(intOf i).toNat)
 case atStart=>exact⟨0,Ml _,rfl,K_.refl _,λj h=>aO h⟩
 case round=>
  obtain⟨k,N,rfl,f,q⟩:=hrel;have s:=Kz q;clear q;by_cases m:k<l.length
  .obtain⟨b,o,O,rfl,P,d,G,H,rfl,I⟩:=F.kept f k m;have t:=E (l.getD k Qz.zero) (by simp[List.getD,m]);let⟨c,n⟩:=aj (l.getD k Qz.zero);rw[<-n] at d t I;have v:=Kz n;clear n;have x:=d 0 _ rfl;have J:=d 1 _ rfl;have K:=d 2 _ rfl;simp only[Ng] at x;clear d;go_wp2_with fail
   refine (vZ _ c G H t).mono ?_;rintro e Q ⟨p,y⟩;have z:=f.trans y;clear x J K f y;rcases p.cases with⟨rfl,A⟩|⟨rfl,B⟩
   .have L:=Kz A;clear A p;go_wp2
    go_ret
    exact⟨⟨k,rfl,Or.inl ⟨k,m,rfl,by rw[<-v.o];exact L.o⟩⟩,z⟩
   .have M:=Kz B;clear B p;go_wp2
    go_roundw
    case rel=>
     refine⟨k+1,E5,F3,z,λj h=>?_⟩;by_cases e:j=k
     .subst e;rw[<-v.o];exact M.o
     .exact s.o j E5
    case measure=>simp[intOf];omega
  .go_wp2
   go_ret
   exact⟨⟨-1,rfl,Or.inr ⟨rfl,λj h=>s.o j E5⟩⟩,f⟩
theorem Gv(w:NN)(a:NM)(D:Nat)(l:List Qz)(E:l.length<=maxLen)(F:∀c∈l,c.Fits)(G:bQ w a l):Calls prog 139 #[.slice a l.length D,.func (.func 86) #[] #[]] w λe w'=>(∃r,e=.returned (.a r)/\Io l nJ r)/\K_ w w':=by
 unfold maxLen at E;go_enter func139,ntmps139
 go_wp2
 go_loopw [8] (λi wr=>∃k:Nat,k<=l.length/\i=.a k/\K_ w wr/\BA l nJ k) (λi _=>l.length-(intOf i).toNat)
 case atStart=>exact⟨0,Ml _,rfl,K_.refl _,λj h=>aO h⟩
 case round=>
  obtain⟨k,N,rfl,f,q⟩:=hrel;have s:=Kz q;clear q;by_cases m:k<l.length
  .obtain⟨b,o,O,rfl,P,d,H,I,rfl,t⟩:=G.kept f k m;have v:=F (l.getD k Qz.zero) (by simp[List.getD,m]);let⟨c,n⟩:=aj (l.getD k Qz.zero);rw[<-n] at d v t;have x:=Kz n;clear n;have y:=d 0 _ rfl;have J:=d 1 _ rfl;have K:=d 2 _ rfl;simp only[Ng] at y;clear d;go_wp2_with fail
   refine (yl _ c H I v t).mono ?_;rintro e Q ⟨p,z⟩;have A:=f.trans z;clear y J K f z;rcases p.cases with⟨rfl,B⟩|⟨rfl,C⟩
   .have L:=Kz B;clear B p;go_wp2
    go_ret
    exact⟨⟨k,rfl,Or.inl ⟨k,m,rfl,by rw[<-x.o];exact L.o⟩⟩,A⟩
   .have M:=Kz C;clear C p;go_wp2
    go_roundw
    case rel=>
     refine⟨k+1,E5,F3,A,λj h=>?_⟩;by_cases e:j=k
     .subst e;rw[<-x.o];exact M.o
     .exact s.o j E5
    case measure=>simp[intOf];omega
  .go_wp2
   go_ret
   exact⟨⟨-1,rfl,Or.inr ⟨rfl,λj h=>s.o j E5⟩⟩,f⟩
theorem yo(w:NN)(a:NM)(f:Nat)(l:List Qz)(n:l.length<=maxLen)(p:∀c∈l,c.Fits)(q:bQ w a l):Calls prog 83 #[.slice a l.length f,.func (.func 84) #[] #[]] w λe w'=>Says e (r_ l jq)/\K_ w w':=by
 go_enter func83,ntmps83
 go_wp2_with fail
 refine (Dy _ a f l n p q).mono ?_;rintro e v ⟨⟨r,rfl,h⟩,j⟩;have k:=Kz h;clear h;by_cases m:0<=r
 .have s:decide (0<=r)=true:=by simpa using m
  go_wp2
  go_ret
  exact⟨Says.yes (by rcases k.o with⟨i,b,_,d⟩|⟨rfl,_⟩;exact⟨i,b,d⟩;omega),j⟩
 .have s:decide (0<=r)=false:=by simpa using m
  go_wp2
  go_ret
  exact⟨Says.no (by rcases k.o with⟨i,b,rfl,d⟩|⟨rfl,t⟩;omega;exact λ⟨i,b,d⟩=>t i b d),j⟩
theorem AX(w:NN)(a:NM)(f:Nat)(l:List Qz)(n:l.length<=maxLen)(p:∀c∈l,c.Fits)(q:bQ w a l):Calls prog 83 #[.slice a l.length f,.func (.func 86) #[] #[]] w λe w'=>Says e (r_ l nJ)/\K_ w w':=by
 go_enter func83,ntmps83
 go_wp2_with fail
 refine (Gv _ a f l n p q).mono ?_;rintro e v ⟨⟨r,rfl,h⟩,j⟩;have k:=Kz h;clear h;by_cases m:0<=r
 .have s:decide (0<=r)=true:=by simpa using m
  go_wp2
  go_ret
  exact⟨Says.yes (by rcases k.o with⟨i,b,_,d⟩|⟨rfl,_⟩;exact⟨i,b,d⟩;omega),j⟩
 .have s:decide (0<=r)=false:=by simpa using m
  go_wp2
  go_ret
  exact⟨Says.no (by rcases k.o with⟨i,b,rfl,d⟩|⟨rfl,t⟩;omega;exact λ⟨i,b,d⟩=>t i b d),j⟩
def qF(l:List Qz)(i:Nat):Prop:=Op.bytesLess (l.getD i Qz.zero).name.toList (l.getD (i+1) Qz.zero).name.toList=false
def iM(l:List Qz):Prop:=∃i,i+1<l.length/\qF l i
def EW(l:List Qz)(k:Nat):Prop:=∀j,j+1<k->¬qF l j
def bE(l:List Qz)(c:Int):Prop:=(60<l.length/\c=1)\/(¬60<l.length/\r_ l jq/\c=2)\/(¬60<l.length/\¬r_ l jq/\iM l/\c=3)\/
 (¬60<l.length/\¬r_ l jq/\¬iM l/\r_ l nJ/\c=4)\/(¬60<l.length/\¬r_ l jq/\¬iM l/\¬r_ l nJ/\c=0)
theorem bE.unique{l:List Qz}{c f:Int}(j:bE l c)(k:bE l f):c=f:=by
 rcases j with⟨a,rfl⟩|⟨a,d,rfl⟩|⟨a,d,h,rfl⟩|⟨a,d,h,m,rfl⟩|⟨a,d,h,m,rfl⟩ <;>
  rcases k with⟨b,rfl⟩|⟨b,e,rfl⟩|⟨b,e,i,rfl⟩|⟨b,e,i,n,rfl⟩|⟨b,e,i,n,rfl⟩<;>first|rfl|contradiction
theorem g_(w:NN)(a:NM)(C:Nat)(l:List Qz)(hl:l.length<=maxLen)(U:∀s∈l,s.Fits)(J:bQ w a l):Calls prog 53 #[.agg #[.slice a l.length C]] w λe w'=>(∃c,e=.returned (.a c)/\bE l c)/\K_ w w':=by
 unfold maxLen at hl;have q:K_ w (w.alloc (.cells #[.slice a l.length C] 25)):=ah _ _;by_cases a6:(60:Int)<l.length
 .go_enter func53,ntmps53
  go_wp2
  go_ret
  exact⟨⟨1,rfl,Or.inl ⟨E5,rfl⟩⟩,q⟩
 .have a2:decide ((60:Int)<l.length)=false:=by simpa using a6
  go_enter func53,ntmps53
  go_wp2
  clear a2;go_loopw [3] (λi wr=>∃k:Nat,k<=l.length/\i=.a k/\K_ (w.alloc (.cells #[.slice a l.length C] 25)) wr/\BA l jq k) (λi _=>l.length-(intOf i).toNat)
  case atStart=>exact⟨0,Ml _,rfl,K_.refl _,λj r=>aO r⟩
  case round=>
   obtain⟨k,V,rfl,d,t⟩:=hrel;have p:=Kz t;clear t;let⟨D,E⟩:=d.rules;have x:=d.size;simp only[MZ] at x;by_cases m:k<l.length
   .obtain⟨b,o,W,rfl,X,f,L,M,rfl,y⟩:=(J.kept q).kept d k m;have B:=U (l.getD k Qz.zero) (by simp[List.getD,m]);let⟨K,z⟩:=aj (l.getD k Qz.zero);rw[<-z] at f B;have F:=Kz z;clear z;have v:=f 0 _ rfl;simp only[Ng] at v;clear f y;go_wp2_with fail
    refine (nN _ K.name B.name).mono ?_;rintro e w1 ⟨A,G⟩;have a7:=Eq.symm G;clear G;subst a7;rcases A.cases with⟨rfl,H⟩|⟨rfl,I⟩
    .have N:=Kz H;clear H A v;go_wp2
     go_roundw
     case rel=>
      refine⟨k+1,E5,F3,d,λj r=>?_⟩;by_cases e:j=k
      .subst e;rw[<-F.o];exact λh=>h N.o
      .exact p.o j E5
     case measure=>simp[intOf];omega
    .have O:=Kz I;clear I A v;go_wp2
     go_ret
     exact⟨⟨2,rfl,Or.inr (Or.inl ⟨E5,⟨k,m,by rw[<-F.o];exact O.o⟩,rfl⟩)⟩,q.trans d⟩
   .have P:Hid (¬r_ l jq):=λ⟨i,Y,h⟩=>p.o i E5 h
    clear p;go_wp2
    clear D E x;go_loopw [4] (λi Q=>∃n:Nat,1<=n/\n<=l.length+1/\i=.a n/\K_ (w.alloc (.cells #[.slice a l.length C] 25)) Q/\EW l n) (λi _=>l.length+2-(intOf i).toNat)
    case atStart=>exact⟨1,E5,E5,rfl,d,λj r=>NB r E5⟩
    case round=>
     clear d V m;obtain⟨n,a9,b0,rfl,d,t⟩:=hrel;have p:=Kz t;clear t;let⟨D,E⟩:=d.rules;have x:=d.size;simp only[MZ] at x;by_cases m:n<l.length
     .obtain⟨b,o,W,rfl,X,f,L,M,rfl,y⟩:=(J.kept q).kept d (n-1) E5;obtain⟨b',o',b1,Z,b2,R,ba,da,rfl,a8⟩:=(J.kept q).kept d n m;simp only[Na,NI,and_true] at Z;obtain⟨rfl,rfl⟩:=Z;let⟨a0,S⟩:=aj ((l.getD (n-1) Qz.zero));let⟨a1,T⟩:=aj ((l.getD n Qz.zero));rw[<-S] at f;rw[<-T] at R;have HX:Hid (l.getD (n-1) Qz.zero=a0):=S.symm;have a3:Hid (l.getD (n-1+1) Qz.zero=a1):=by rw[T,show n-1+1=n by omega];exact rfl
      clear S T y a8;have v:=f 0 _ rfl;have d0:=R 0 _ rfl;simp only[Ng] at v d0;clear f R;have i0:(0:Int)<=(n:Int)-1:=E5;have i1:(n:Int)-1<(l.length:Int):=E5;cases a4:Op.bytesLess a0.name.toList a1.name.toList
      .go_wp2
       go_region
       all_goals
        go_wp2
        go_ret
        exact⟨⟨3,rfl,Or.inr (Or.inr (Or.inl ⟨E5,P.o,⟨n-1,E5,by unfold qF;rw[HX.o,a3.o];exact a4⟩,rfl⟩))⟩,q.trans (by repeat (first|apply K_.drew|exact d))⟩
      .go_wp2
       go_region
       all_goals
        go_wp2
        go_roundw
        case rel=>
         refine⟨n+1,E5,E5,F3,by repeat (first|apply K_.drew|exact d),λj r=>?_⟩;by_cases e:j=n-1
         .subst e;unfold qF;rw[HX.o,a3.o,a4];simp
         .exact p.o j E5
        case measure=>simp[intOf];omega
     .have HC:Hid (¬iM l):=λ⟨i,Y,h⟩=>p.o i E5 h
      clear p;go_wp2
      clear D E x;go_loopw [5] (λi Q=>∃k:Nat,k<=l.length/\i=.a k/\K_ (w.alloc (.cells #[.slice a l.length C] 25)) Q/\BA l nJ k) (λi _=>l.length-(intOf i).toNat)
      case atStart=>exact⟨0,Ml _,rfl,d,λj r=>aO r⟩
      case round=>
       clear d m;obtain⟨k,V,rfl,d,t⟩:=hrel;have p:=Kz t;clear t;let⟨D,E⟩:=d.rules;have x:=d.size;simp only[MZ] at x;by_cases m:k<l.length
       .obtain⟨b,o,W,rfl,X,f,L,M,rfl,y⟩:=(J.kept q).kept d k m;have B:=U (l.getD k Qz.zero) (by simp[List.getD,m]);let⟨K,z⟩:=aj (l.getD k Qz.zero);rw[<-z] at f B y;have F:=Kz z;clear z;have v:=f 0 _ rfl;have c1:=f 1 _ rfl;have c2:=f 2 _ rfl;simp only[Ng] at v;clear f;go_wp2_with fail
        refine (fM _ K.cost L M K.steps B.steps B.each y).mono ?_;rintro e w1 ⟨A,G⟩;have a5:=d.trans G;clear d G v c1 c2 y D E;rcases A.cases with⟨rfl,H⟩|⟨rfl,I⟩
        .have N:=Kz H;clear H A;go_wp2
         go_roundw
         case rel=>
          refine⟨k+1,E5,F3,a5,λj r=>?_⟩;by_cases e:j=k
          .subst e;rw[<-F.o];exact λh=>h N.o
          .exact p.o j E5
         case measure=>simp[intOf];omega
        .have O:=Kz I;clear I A;go_wp2
         go_ret
         exact⟨⟨4,rfl,Or.inr (Or.inr (Or.inr (Or.inl ⟨E5,P.o,HC.o,⟨k,m,by rw[<-F.o];exact O.o⟩,rfl⟩)))⟩,q.trans a5⟩
       .go_wp2
        go_ret
        exact⟨⟨0,rfl,Or.inr (Or.inr (Or.inr (Or.inr ⟨E5,P.o,HC.o,λ⟨i,Y,h⟩=>p.o i E5 h,rfl⟩)))⟩,q.trans d⟩
def EQ :Prop:=∀(w:NN)(a:NM)(cap:Nat)(l:List Qz),l.length<=maxLen->bQ w a l->
 Calls prog 85 #[.agg #[.slice a l.length cap,.func (.func 89) #[] #[]]] w λe w'=>Says e (¬iM l)/\K_ w w'
theorem Tryz.EF :(prog.info? 79).map (·.size)=some 2:=F4
theorem DF(w:NN)(c:Array NP)(t:TypeId):(w.alloc (.cells c t)).rangeAt w.heap.size 0 c.toList:=λj v a=>by
 rw[MR,World.cell?_alloc_mark];simpa using a
theorem xP(w:NN)(a:NM)(n b:Nat):Calls prog 41 #[.agg #[.slice a n b]] w λe w'=>e=.returned (.agg #[.slice a n b,.func (.func 89) #[] #[]])/\K_ w w':=by
 go_enter func41,ntmps41
 go_wp2
 have c:=DF (w.alloc (.cells #[.slice a n b] 25)) #[.slice a n b,.func (.func 89) #[] #[]] 79;rw[MZ] at c;exact Zx [.slice a n b,.func (.func 89) #[] #[]] _ results41 rfl c underlying79 rfl Tryz.EF rfl ⟨rfl,(ah _ _).alloc _⟩
theorem uB(C:Hid EQ)(w:NN)(a:NM)(d:Nat)(l:List Qz)(j:l.length<=maxLen)(z:∀s∈l,s.Fits)(r:bQ w a l):Calls prog 39 #[.agg #[.slice a l.length d]] w λe w'=>(∃c,e=.returned (.a c)/\bE l c)/\K_ w w':=by
 have D:=j;unfold maxLen at D;have t:K_ w (w.alloc (.cells #[.slice a l.length d] 25)):=ah _ _;by_cases I:(60:Int)<l.length
 .go_enter func39,ntmps39
  go_wp2
  go_ret
  exact⟨⟨1,rfl,Or.inl ⟨E5,rfl⟩⟩,t⟩
 .go_enter func39,ntmps39
  go_wp2_with fail
  refine (yo _ a d l j z (r.kept t)).mono ?_;rintro e E ⟨b,i⟩;have k:=t.trans i;rcases b.cases with⟨rfl,f⟩|⟨rfl,h⟩
  .have F:=Kz f;clear f b;go_wp2
   go_ret
   exact⟨⟨2,rfl,Or.inr (Or.inl ⟨E5,F.o,rfl⟩)⟩,k⟩
  .have v:=Kz h;clear h b;have A:E.cell? ⟨w.heap.size,0,none⟩=some (.slice a l.length d):=by rw[i.cell E9];simp
   go_wp2_with fail
   refine (xP _ a l.length d).mono ?_;rintro e J ⟨rfl,m⟩;have n:=k.trans m;go_wp2_with fail
   refine (bg C _ a d l j (r.kept n)).mono ?_;rintro e G ⟨b,p⟩;have x:=n.trans p;rcases b.cases with⟨rfl,f⟩|⟨rfl,h⟩
   .have q:=Kz f;clear f b;have K:G.cell? ⟨w.heap.size,0,none⟩=some (.slice a l.length d):=by rw[((i.trans m).trans p).cell E9];simp
    clear A i m p k n;go_wp2_with fail
    refine (AX _ a d l j z (r.kept x)).mono ?_;rintro e L ⟨b,H⟩;have B:=x.trans H;rcases b.cases with⟨rfl,f⟩|⟨rfl,h⟩
    .have y:=Kz f;clear f b;go_wp2
     go_ret
     exact⟨⟨4,rfl,Or.inr (Or.inr (Or.inr (Or.inl ⟨E5,v.o,q.o,y.o,rfl⟩)))⟩,B⟩
    .have y:=Kz h;clear h b;go_wp2
     go_ret
     exact⟨⟨0,rfl,Or.inr (Or.inr (Or.inr (Or.inr ⟨E5,v.o,q.o,y.o,rfl⟩)))⟩,B⟩
   .have q:=Kz h;clear h b i m p k n A;go_wp2
    go_ret
    exact⟨⟨3,rfl,Or.inr (Or.inr (Or.inl ⟨E5,v.o,Classical.not_not.1 q.o,rfl⟩))⟩,x⟩
theorem nY(w:NN)(x y z:NP)(s:NL)(b:x=.string s):Calls prog 89 #[.agg #[x,y,z]] w λe w'=>e=.returned (.string s)/\K_ w w':=by
 subst b;go_enter func89,ntmps89
 go_wp2
 go_ret
 exact⟨rfl,ah _ _⟩
theorem Gw{w a:NN}{x y:NP}{t:TypeId}(K:K_ (w.alloc (.cells #[x,y] t)) a):a.cell? ⟨w.heap.size,0,none⟩=some x/\a.cell? ⟨w.heap.size,1,none⟩=some y:=by
 constructor
 .rw[K.cell E9];simp
 .rw[K.cell E9];simp
theorem dQ{m:Int}(a: -9223372036854775808<=m)(h2:m<=9223372036854775807):IntKind.i64.wrap m=m:=by
 simp only[IntKind.wrap,IntKind.signed,IntKind.bits]
 first|omega|(simp;omega)
theorem yh(w:NN)(a:NM)(d:Nat)(l:List Qz)(S:l.length<=maxLen)(E:bQ w a l):Calls prog 85 #[.agg #[.slice a l.length d,.func (.func 89) #[] #[]]] w λe w'=>Says e (¬iM l)/\K_ w w':=by
 unfold maxLen at S;have p:K_ w (w.alloc (.cells #[.slice a l.length d,.func (.func 89) #[] #[]] 79)):=ah _ _;go_enter func85,ntmps85
 go_wp2
 go_loopw [3] (λj wr=>∃n:Nat,1<=n/\n<=l.length+1/\j=.a n/\K_ (w.alloc (.cells #[.slice a l.length d,.func (.func 89) #[] #[]] 79)) wr/\EW l n) (λj _=>l.length+2-(intOf j).toNat)
 case atStart=>exact⟨1,E5,E5,rfl,K_.refl _,λq F=>NB F E5⟩
 case round=>
  obtain⟨n,a0,a1,rfl,f,G⟩:=hrel;have H:=Kz G;clear G;have T:=f.size;simp only[MZ] at T;have I:w.heap.size<wr.heap.size:=E5;let⟨U,V⟩:=Gw f;by_cases W:n<l.length
  .have J:K_ w wr:=p.trans f;obtain⟨b,o,cs,rfl,i,k,r,s,rfl,X⟩:=E.kept J (n-1) E5;obtain⟨b',o',a2,K,a3,m,t,v,rfl,Y⟩:=E.kept J n W;simp only[Na,NI,and_true] at K;obtain⟨rfl,rfl⟩:=K;let⟨x,z⟩:=aj ((l.getD (n-1) Qz.zero));let⟨y,A⟩:=aj ((l.getD n Qz.zero));rw[<-z] at k;rw[<-A] at m;have L:Hid (l.getD (n-1) Qz.zero=x):=z.symm;have M:Hid (l.getD (n-1+1) Qz.zero=y):=by rw[A,show n-1+1=n by omega];exact rfl
   clear z A X Y;have N:=k 0 _ rfl;have Z:=k 1 _ rfl;have c2:=k 2 _ rfl;have O:=m 0 _ rfl;have d1:=m 1 _ rfl;have d2:=m 2 _ rfl;simp only[Ng] at N O;clear k m;have i0:(0:Int)<=(n:Int)-1:=E5;have i1:(n:Int)-1<(l.length:Int):=E5;have i2:(n:Int)<(l.length:Int):=E5;have i5:(1:Int)<=(n:Int):=E5;have i6:(n:Int)<=(l.length:Int):=E5;have i7:n<=l.length:=E5;have i3:((n:Int)-1).toNat=n-1:=E5;have i4:IntKind.i64.wrap ((n:Int)-1)= (n:Int)-1:=dQ E5 E5;have P:∀w',K_ wr w'->(λw'=>M4 w' b (o+(n-1)*3) (.string x.name)/\M4 w' b (o+(n-1)*3+1) (.a x.cost)/\M4 w' b (o+(n-1)*3+2) (.slice r x.steps.length s)/\M4 w' b (o+n*3) (.string y.name)/\M4 w' b (o+n*3+1) (.a y.cost)/\M4 w' b (o+n*3+2) (.slice t y.steps.length v)/\M4 w' w.heap.size 0 (.slice (some ⟨b,o,none⟩) l.length d)/\M4 w' w.heap.size 1 (.func (.func 89) #[] #[])) w':=λw' c=>⟨(K_.cell c i).trans N,(K_.cell c i).trans Z,(K_.cell c i).trans c2,(K_.cell c i).trans O,(K_.cell c i).trans d1,(K_.cell c i).trans d2,(K_.cell c I).trans U,(K_.cell c I).trans V⟩
   have Q:=Kz P;clear P;cases R:Op.bytesLess x.name.toList y.name.toList
   .go_wp2
    go_region_held (λw'=>M4 w' b (o+(n-1)*3) (.string x.name)/\M4 w' b (o+(n-1)*3+1) (.a x.cost)/\M4 w' b (o+(n-1)*3+2) (.slice r x.steps.length s)/\M4 w' b (o+n*3) (.string y.name)/\M4 w' b (o+n*3+1) (.a y.cost)/\M4 w' b (o+n*3+2) (.slice t y.steps.length v)/\M4 w' w.heap.size 0 (.slice (some ⟨b,o,none⟩) l.length d)/\M4 w' w.heap.size 1 (.func (.func 89) #[] #[])) (exact bg Q _ J2) ((go_at_call 89;refine (nY _ _ _ _ _ rfl).mono ?_;rintro e B ⟨rfl,C⟩;have c:K_ wr B:=K_.trans J2 C))
    all_goals
     have D:=f.trans c;go_wp2
     go_ret
     exact⟨Says.no λh=>h ⟨n-1,E5,by unfold qF;rw[L.o,M.o];exact R⟩,p.trans (by repeat (first|apply K_.drew|exact D))⟩
   .go_wp2
    go_region_held (λw'=>M4 w' b (o+(n-1)*3) (.string x.name)/\M4 w' b (o+(n-1)*3+1) (.a x.cost)/\M4 w' b (o+(n-1)*3+2) (.slice r x.steps.length s)/\M4 w' b (o+n*3) (.string y.name)/\M4 w' b (o+n*3+1) (.a y.cost)/\M4 w' b (o+n*3+2) (.slice t y.steps.length v)/\M4 w' w.heap.size 0 (.slice (some ⟨b,o,none⟩) l.length d)/\M4 w' w.heap.size 1 (.func (.func 89) #[] #[])) (exact bg Q _ J2) ((go_at_call 89;refine (nY _ _ _ _ _ rfl).mono ?_;rintro e B ⟨rfl,C⟩;have c:K_ wr B:=K_.trans J2 C))
    all_goals
     have D:=f.trans c;go_wp2
     go_roundw
     case rel=>
      refine⟨n+1,E5,E5,F3,by repeat (first|apply K_.drew|exact D),λq F=>?_⟩;by_cases e:q=n-1
      .subst e;unfold qF;rw[L.o,M.o,R];simp
      .exact H.o q E5
     case measure=>simp[intOf];omega
  .go_wp2
   go_ret
   exact⟨Says.yes λ⟨j,hi,h⟩=>H.o j E5 h,p.trans f⟩
theorem JU :EQ:=λw a c l e f=>yh w a c l e f
def kJ(x y:List UInt8):Int:=if Op.bytesLess x y=true then -1 else if x=y then 0 else 1
theorem qf(w:NN)(x y:NL):Calls prog 144 #[.string x,.string y] w λe w'=>e=.returned (.a (kJ x.toList y.toList))/\w'=w:=by
 cases a:Op.bytesLess x.toList y.toList
 .cases b:(x.toList == y.toList)
  .go_enter func144,ntmps144
   go_wp2
   go_ret
   exact⟨AC (by unfold kJ;rw[NA (by rw[a];simp),NA (by simpa using b)]),rfl⟩
  .go_enter func144,ntmps144
   go_wp2
   go_ret
   exact⟨AC (by unfold kJ;rw[NA (by rw[a];simp),Nz (by simpa using b)]),rfl⟩
 .go_enter func144,ntmps144
  go_wp2
  go_ret
  exact⟨AC (by unfold kJ;rw[Nz a]),rfl⟩
theorem uN(w:NN)(g:Nat)(d:Qz)(a:NM)(f:Nat)(b:NL)(j:g<w.heap.size)(k:w.cell? ⟨g,1,none⟩=some (.func (.func 89) #[] #[])):Calls prog 143 #[.agg #[.string d.name,.a d.cost,.slice a d.steps.length f],.string b,.c g] w λe w'=>e=.returned (.a (kJ d.name.toList b.toList))/\K_ w w':=by
 go_enter func143,ntmps143
 go_wp2_with fail
 refine (nY _ _ _ _ d.name rfl).mono ?_;rintro e h ⟨rfl,c⟩;have i:K_ w h:=K_.trans G9 c;clear c;go_wp2_with fail
 refine (qf _ d.name b).mono ?_;rintro e l ⟨rfl,rfl⟩;go_wp2
 go_ret
 exact⟨rfl,i⟩
theorem xe{x y:List UInt8}:kJ x y<0↔Op.bytesLess x y=true:=by
 unfold kJ;by_cases h:Op.bytesLess x y=true
 .rw[Nz h];exact⟨λ_=>h,λ_=>E5⟩
 .rw[NA h];refine⟨λg=>?_,λg=>NB g h⟩
  split at g<;>omega
theorem uA{x y:List UInt8}:kJ x y=0↔x=y:=by
 unfold kJ;by_cases h:Op.bytesLess x y=true
 .rw[Nz h];refine⟨λg=>E5,λg=>?_⟩;rw[g,dP] at h;cases h
 .rw[NA h];by_cases e:x=y
  .rw[Nz e];exact⟨λ_=>e,λ_=>rfl⟩
  .rw[NA e];exact⟨λg=>E5,λg=>NB g e⟩
def Found(l:List Qz)(key:List UInt8)(e:Ending):Prop:=∃(p:Nat)(f:Bool),e=.returned (.tuple #[.a p,.bool f])/\Place l key p/\(f=true↔p<l.length/\nameAt l p=key)
theorem Found.mk{l:List Qz}{a:List UInt8}{e:Ending}(p:Nat)(f:Bool)(b:e=.returned (.tuple #[.a p,.bool f]))(h2:Place l a p)(c:f=true↔p<l.length/\nameAt l p=a):Found l a e:=⟨p,f,b,h2,c⟩
theorem DY(w:NN)(g:Nat)(a:NM)(Y:Nat)(l:List Qz)(c:NL)(hl:l.length<=1048576)(N:f_ l)(y:g<w.heap.size)(O:w.cell? ⟨g,1,none⟩=some (.func (.func 89) #[] #[]))(P:bQ w a l):Calls prog 142 #[.slice a l.length Y,.string c,.func (.func 143) #[] #[.c g]] w
   λe w'=>Found l c.toList e/\K_ w w':=by
 have Q:=Kz N;clear N;go_enter func142,ntmps142
 go_wp2
 go_loopw [9,10] (λB C wr=>∃i j:Nat,B=.a i/\C=.a j/\i<=j/\j<=l.length/\(∀t,t<i->Op.bytesLess (nameAt l t) c.toList=true)/\(∀t,j<=t->t<l.length->Op.bytesLess (nameAt l t) c.toList=false)/\K_ w wr) (λB C _=>(intOf C).toNat-(intOf B).toNat)
 case atStart=>exact⟨0,l.length,rfl,rfl,Ml _,Mj _,λt R=>aO R,λt Z S=>E5,K_.refl _⟩
 case round=>
  obtain⟨i,j,rfl,rfl,a4,T,p,q,d⟩:=hrel;have r:=Kz (And.intro p q);clear p q;by_cases a5:(i:Int)<j
  .obtain⟨h,U⟩:∃h:Nat,h= (i+j) / 2:=⟨_,rfl⟩;have V:h<l.length:=E5;have a0:i<=h:=E5;have a6:h<j:=E5;obtain⟨b,o,cs,rfl,hb,f,D,E,rfl,F⟩:=P.kept d h V;let⟨k,m⟩:=aj (l.getD h Qz.zero);rw[<-m] at f;have G:=Kz m;clear m F;have s:=f 0 _ rfl;have H:=f 1 _ rfl;have I:=f 2 _ rfl;simp only[Ng] at s;clear f;have a7:((i:Int)+(j:Int)) / 2= (h:Int):=E5;have HH:=Kz U;clear U;have J:=Mk y d.size;have K:wr.cell? ⟨g,1,none⟩=some (.func (.func 89) #[] #[]):=by rw[d.cell y];exact O
   go_wp2_with fail
   refine (uN _ g k D E c J K).mono ?_;rintro e w1 ⟨rfl,v⟩;have x:nameAt l h=k.name.toList:=by unfold nameAt;rw[<-G.o]
   have z:Hid (kJ k.name.toList c.toList<0↔Op.bytesLess (nameAt l h) c.toList=true):=by rw[x];exact xe
   clear s H I x;generalize kJ k.name.toList c.toList=W at *;have A:=d.trans v;clear d v;by_cases a1:W<0
   .go_wp2
    go_roundw
    case rel=>
     let⟨p,q⟩:=r.o;refine⟨h+1,j,F3,rfl,E5,T,λt R=>?_,q,A⟩;have n:=z.o.1 a1;by_cases e:t=h
     .subst e;exact n
     .exact fu _ _ _ (Q.o t h E5 V) n
    case measure=>simp[intOf];omega
   .go_wp2
    go_roundw
    case rel=>
     let⟨p,q⟩:=r.o;refine⟨i,h,rfl,F3,a0,E5,p,λt Z S=>?_,A⟩;have n:Op.bytesLess (nameAt l h) c.toList=false:=by
      cases L:Op.bytesLess (nameAt l h) c.toList
      .rfl
      .have:=z.o.2 L;omega
     by_cases e:t=h
     .subst e;exact n
     .cases L:Op.bytesLess (nameAt l t) c.toList
      .rfl
      .rw[fu _ _ _ (Q.o h t E5 S) L] at n;cases n
    case measure=>simp[intOf];omega
  .have a2:i=j:=E5;subst a2;have X:Hid (Place l c.toList i):=⟨T,r.o.1,r.o.2⟩;clear r;by_cases M:i<l.length
   .obtain⟨b,o,cs,rfl,hb,f,D,E,rfl,F⟩:=P.kept d i M;let⟨k,m⟩:=aj (l.getD i Qz.zero);rw[<-m] at f;have G:=Kz m;clear m F;have s:=f 0 _ rfl;have H:=f 1 _ rfl;have I:=f 2 _ rfl;simp only[Ng] at s;clear f;have J:=Mk y d.size;have K:wr.cell? ⟨g,1,none⟩=some (.func (.func 89) #[] #[]):=by rw[d.cell y];exact O
    have a3:(i:Int)<l.length:=E5;go_wp2_with fail
    refine (uN _ g k D E c J K).mono ?_;rintro e w1 ⟨rfl,v⟩;have x:nameAt l i=k.name.toList:=by unfold nameAt;rw[<-G.o]
    have z:Hid (kJ k.name.toList c.toList=0↔nameAt l i=c.toList):=by rw[x];exact uA
    clear s H I x;generalize kJ k.name.toList c.toList=W at *;have A:=d.trans v;clear d v;go_wp2
    go_ret2
    refine⟨Found.mk i _ rfl X.o ?_,A⟩;rw[<-z.o];simp[M]
   .have a3:¬(i:Int)<l.length:=E5;go_wp2
    go_ret2
    exact⟨Found.mk i false rfl X.o (by simp;intro h;exact NB h M),d⟩
theorem Ib(w:NN)(a:NM)(b:Nat)(l:List Qz)(c:NL)(i:l.length<=1048576)(j:f_ l)(k:bQ w a l):Calls prog 90 #[.agg #[.slice a l.length b,.func (.func 89) #[] #[]],.string c] w
   λe w'=>Found l c.toList e/\K_ w w':=by
 have d:K_ w (w.alloc (.cells #[.slice a l.length b,.func (.func 89) #[] #[]] 79)):=ah _ _;go_enter func90,ntmps90
 go_wp2_with fail
 refine (DY _ w.heap.size a b l c i j E9 E9 (k.kept d)).mono ?_;rintro e t ⟨m,n⟩;obtain⟨p,q,rfl,f,h⟩:=m;have⟨r,s⟩:=aH f h;clear f h;go_wp2
 go_ret2
 exact⟨Found.mk p q rfl r.o s.o,d.trans n⟩
theorem Ak{w a:NN}{x:NP}{t:TypeId}(K:K_ (w.alloc (.cells #[x] t)) a):a.cell? ⟨w.heap.size,0,none⟩=some x:=by
 rw[K.cell E9];simp
theorem CP(w:NN)(cost j:Int)(a d:NM)(t N:Nat)(l:List Xq)(ans:List Xz)(D:l.length<=maxLen)(E:∀s∈l,s.Fits)(F:Steps w a l)(O:ans.length<=maxLen)(_has:∀c∈ans,c.text.size<=maxLen)(_hD:fD w d ans)(P:Hid (¬(nZ cost l j/\ans.length= (jK l j).asks.length))):Calls prog 110 #[.agg #[.a cost,.slice a l.length t],.a j,.slice d ans.length N] w λe w'=>(∃g,e=.returned (.agg g.cells.toArray)/\kX cost l j ans g)/\K_ w w':=by
 have Q:=D;have R:=O;unfold maxLen at Q R;have v:K_ w ((w.alloc (.cells #[.a cost,.slice a l.length t] 31)).alloc (.cells #[.a 0,.bool false,.a 0,.string ⟨#[]⟩] 168)):=(ah _ _).alloc _;go_enter func110,ntmps110
 go_wp2_with fail
 refine (fM _ cost a t l D E (F.kept v)).mono ?_;rintro e k ⟨B,p⟩;have q:=v.trans p;have G:Row k (w.heap.size+1) 4:=Row.kept (by have:=Row.made (w.alloc (.cells #[.a cost,.slice a l.length t] 31)) #[.a 0,.bool false,.a 0,.string ⟨#[]⟩] 168;simpa using this) p;have r:=Kz G;clear G;let⟨a1,a2⟩:=p.rules;have S:=p.size;simp only[MZ] at S;have x0:w.heap.size<k.heap.size:=E5;have x1:w.heap.size+1<k.heap.size:=E5;rcases B.cases with⟨rfl,H⟩|⟨rfl,I⟩
 .have x:=Kz H;clear H B v p;by_cases T:0<=j
  .cases J:decide (j<=(l.length:Int)-1)
   .have U:(l.length:Int)-1<j:=by simpa using J
    go_wp2
    have i:=Mo k (w.heap.size+1) 0 b_.none.cells (r.o.there (o:=0) (m:=4) (Mj _));exact Zx b_.none.cells _ results110 rfl i underlying168 rfl Tryz.dV rfl ⟨⟨_,rfl,Or.inl ⟨λh=>(by have:=h.2.1;omega),rfl⟩⟩,K_.setCells (g:=w.heap.size+1) E5 b_.none.cells 0 q⟩
   .have U:j<=(l.length:Int)-1:=by simpa using J
    obtain⟨n,rfl⟩:=Int.eq_ofNat_of_zero_le T;have C:n<l.length:=E5;obtain⟨b,o,cs,rfl,hb,f,aa,ca,ac,cc,rfl,V,W,X⟩:=F.kept q n C;have Y:=E (l.getD n Xq.zero) (by simp[List.getD,C]);let⟨s,y⟩:=aj (l.getD n Xq.zero);rw[<-y] at f Y V W X;have z:Hid (jK l n=s):=by rw[y];show Hid (l.getD (n:Int).toNat Xq.zero=_);rw[Int.toNat_natCast];exact rfl
    have a3:Hid (ll s l.length):=by rw[y];exact x.o.2.2 n C
    clear y;have Z:=f 0 _ rfl;have c1:=f 1 _ rfl;have c2:=f 2 _ rfl;have c3:=f 3 _ rfl;have c4:=f 4 _ rfl;have K:=f 5 _ rfl;have c6:=f 6 _ rfl;have c7:=f 7 _ rfl;simp only[Ng] at Z;clear f;cases A:s.fin
    .rw[A] at K;have L:Hid (nZ cost l n):=⟨x.o,⟨E5,E5⟩,by rw[z.o];exact A⟩;have M:ans.length≠s.asks.length:=λh=>P.out ⟨L.o,by rw[z.o];exact h⟩
     have a4:((ans.length:Int) != (s.asks.length:Int))=true:=F6;have a0:=Kz M;clear M;go_wp2
     have i:=Mo k (w.heap.size+1) 0 b_.none.cells (r.o.there (o:=0) (m:=4) (Mj _));exact Zx b_.none.cells _ results110 rfl i underlying168 rfl Tryz.dV rfl ⟨⟨_,rfl,Or.inr ⟨L.o,Or.inl ⟨λh=>a0.o (by have:=h.1;rw[z.o] at this;exact this),rfl⟩⟩⟩,K_.setCells (g:=w.heap.size+1) E5 b_.none.cells 0 q⟩
    .rw[A] at K;go_wp2
     have i:=Mo k (w.heap.size+1) 0 b_.none.cells (r.o.there (o:=0) (m:=4) (Mj _));exact Zx b_.none.cells _ results110 rfl i underlying168 rfl Tryz.dV rfl ⟨⟨_,rfl,Or.inl ⟨λh=>(by have:=h.2.2;rw[z.o,A] at this;cases this),rfl⟩⟩,K_.setCells (g:=w.heap.size+1) E5 b_.none.cells 0 q⟩
  .skip
   go_wp2
   have i:=Mo k (w.heap.size+1) 0 b_.none.cells (r.o.there (o:=0) (m:=4) (Mj _));exact Zx b_.none.cells _ results110 rfl i underlying168 rfl Tryz.dV rfl ⟨⟨_,rfl,Or.inl ⟨λh=>(by have:=h.2.1;omega),rfl⟩⟩,K_.setCells (g:=w.heap.size+1) E5 b_.none.cells 0 q⟩
 .have x:=Kz I;clear I B v p;go_wp2
  have i:=Mo k (w.heap.size+1) 0 b_.none.cells (r.o.there (o:=0) (m:=4) (Mj _));exact Zx b_.none.cells _ results110 rfl i underlying168 rfl Tryz.dV rfl ⟨⟨_,rfl,Or.inl ⟨λh=>x.o h.1,rfl⟩⟩,K_.setCells (g:=w.heap.size+1) E5 b_.none.cells 0 q⟩
