import Derived.Test.YtjbipapbckajnaaGreatDoorKWGo5
import Derived.Test.YtjbipapbckajnaaGreatDoorKSRoots
import Derived.Laws.EntriesVeiled
set_option maxRecDepth 100000
set_option maxHeartbeats 25600000
namespace Go.Proofs.YtjbipapbckajnaaGreatDoor
open Go.RowKit Go.Proofs.Tryz
def Bn(l:List Qz)(p:Qz->Prop)(k:Nat):Prop:=∀j,j<k->¬p (l.getD j Qz.zero)
def rq(l:List Qz)(p:Qz->Prop):Prop:=∃i,i<l.length/\p (l.getD i Qz.zero)
def Il(l:List Qz)(p:Qz->Prop)(r:Int):Prop:=
 (∃i,i<l.length/\r= (i:Int)/\p (l.getD i Qz.zero))\/(r= -1/\Bn l p l.length)
def jf(d:Qz):Prop:=¬je d.name
def mW(d:Qz):Prop:=¬gM ⟨d.cost,d.steps⟩
theorem vK(w:NI)(d:Qz)(a:NH)(f:Nat)(m:d.Fits):
  Calls prog 94 #[.agg #[.string d.name,.a d.cost,.slice a d.steps.length f]] w λe w'=>Says e (jf d)/\K_ w w':=by
 have h:K_ w (w.alloc (.cells #[.string d.name,.a d.cost,.slice a d.steps.length f] 88)):=ah _ _;go_enter func94,ntmps94
 go_wp2_with fail
 refine (lX _ d.name m.name).mono ?_;rintro e p ⟨b,i⟩;have j:=h.trans i;clear h i;rcases b.cases with⟨rfl,k⟩|⟨rfl,l⟩
 .have c:=Kz k;clear k b;go_wp2
  go_ret
  exact⟨Says.no λn=>n c.o,j⟩
 .have c:=Kz l;clear l b;go_wp2
  go_ret
  exact⟨Says.yes c.o,j⟩
theorem xR(w:NI)(d:Qz)(a:NH)(b:Nat)(i:d.Fits)(n:Steps w a d.steps):
  Calls prog 96 #[.agg #[.string d.name,.a d.cost,.slice a d.steps.length b]] w λe w'=>Says e (mW d)/\K_ w w':=by
 have c:K_ w (w.alloc (.cells #[.string d.name,.a d.cost,.slice a d.steps.length b] 88)):=ah _ _;go_enter func96,ntmps96
 go_wp2_with fail
 refine (pV _ d.cost a b d.steps i.steps i.each (n.kept c)).mono ?_;rintro e q ⟨f,j⟩;have k:=c.trans j;clear c j;rcases f.cases with⟨rfl,l⟩|⟨rfl,m⟩
 .have h:=Kz l;clear l f;go_wp2
  go_ret
  exact⟨Says.no λp=>p h.o,k⟩
 .have h:=Kz m;clear m f;go_wp2
  go_ret
  exact⟨Says.yes h.o,k⟩
theorem Dt(w:NI)(a:NH)(C:Nat)(l:List Qz)(D:l.length<=maxLen)(E:∀c∈l,c.Fits)(F:bT w a l):
  Calls prog 140 #[.slice a l.length C,.func (.func 94) #[] #[]] w λe w'=>(∃r,e= .returned (.a r)/\Il l jf r)/\K_ w w':=by
 unfold maxLen at D;go_enter func140,ntmps140
 go_wp2
 go_loopw [8] (λi wr=>∃k:Nat,k<=l.length/\i= .a k/\K_ w wr/\Bn l jf k) (λi _=>l.length-(intOf i).toNat)
 case atStart=>exact⟨0,Mg _,rfl,K_.refl _,λj h=>aO h⟩
 case round=>
  obtain⟨k,N,rfl,f,q⟩:=hrel;have s:=Kz q;clear q;by_cases m:k<l.length
  .obtain⟨b,o,O,rfl,P,d,G,H,rfl,I⟩:=F.kept f k m;have t:=E (l.getD k Qz.zero) (by simp[List.getD,m]);obtain⟨c,n⟩:=aj (l.getD k Qz.zero);rw[<-n] at d t I;have v:=Kz n;clear n;have x:=d 0 _ rfl;have J:=d 1 _ rfl;have K:=d 2 _ rfl;simp only[M_] at x;clear d;go_wp2_with fail
   refine (vK _ c G H t).mono ?_;rintro e Q ⟨p,y⟩;have z:=f.trans y;clear x J K f y;rcases p.cases with⟨rfl,A⟩|⟨rfl,B⟩
   .have L:=Kz A;clear A p;go_wp2
    go_ret
    exact⟨⟨k,rfl,Or.inl ⟨k,m,rfl,by rw[<-v.o];exact L.o⟩⟩,z⟩
   .have M:=Kz B;clear B p;go_wp2
    go_roundw
    case rel=>
     refine⟨k+1,E5,F3,z,λj h=>?_⟩;by_cases e:j=k
     .subst e;rw[<-v.o];exact M.o
     .exact s.o j E5
    case measure=>simp[intOf];omega
  .go_wp2
   go_ret
   exact⟨⟨-1,rfl,Or.inr ⟨rfl,λj h=>s.o j E5⟩⟩,f⟩
theorem Gr(w:NI)(a:NH)(D:Nat)(l:List Qz)(E:l.length<=maxLen)(F:∀c∈l,c.Fits)(G:bT w a l):
  Calls prog 140 #[.slice a l.length D,.func (.func 96) #[] #[]] w λe w'=>(∃r,e= .returned (.a r)/\Il l mW r)/\K_ w w':=by
 unfold maxLen at E;go_enter func140,ntmps140
 go_wp2
 go_loopw [8] (λi wr=>∃k:Nat,k<=l.length/\i= .a k/\K_ w wr/\Bn l mW k) (λi _=>l.length-(intOf i).toNat)
 case atStart=>exact⟨0,Mg _,rfl,K_.refl _,λj h=>aO h⟩
 case round=>
  obtain⟨k,N,rfl,f,q⟩:=hrel;have s:=Kz q;clear q;by_cases m:k<l.length
  .obtain⟨b,o,O,rfl,P,d,H,I,rfl,t⟩:=G.kept f k m;have v:=F (l.getD k Qz.zero) (by simp[List.getD,m]);obtain⟨c,n⟩:=aj (l.getD k Qz.zero);rw[<-n] at d v t;have x:=Kz n;clear n;have y:=d 0 _ rfl;have J:=d 1 _ rfl;have K:=d 2 _ rfl;simp only[M_] at y;clear d;go_wp2_with fail
   refine (xR _ c H I v t).mono ?_;rintro e Q ⟨p,z⟩;have A:=f.trans z;clear y J K f z;rcases p.cases with⟨rfl,B⟩|⟨rfl,C⟩
   .have L:=Kz B;clear B p;go_wp2
    go_ret
    exact⟨⟨k,rfl,Or.inl ⟨k,m,rfl,by rw[<-x.o];exact L.o⟩⟩,A⟩
   .have M:=Kz C;clear C p;go_wp2
    go_roundw
    case rel=>
     refine⟨k+1,E5,F3,A,λj h=>?_⟩;by_cases e:j=k
     .subst e;rw[<-x.o];exact M.o
     .exact s.o j E5
    case measure=>simp[intOf];omega
  .go_wp2
   go_ret
   exact⟨⟨-1,rfl,Or.inr ⟨rfl,λj h=>s.o j E5⟩⟩,f⟩
theorem xV(w:NI)(a:NH)(f:Nat)(l:List Qz)(n:l.length<=maxLen)(p:∀c∈l,c.Fits)(q:bT w a l):
  Calls prog 93 #[.slice a l.length f,.func (.func 94) #[] #[]] w λe w'=>Says e (rq l jf)/\K_ w w':=by
 go_enter func93,ntmps93
 go_wp2_with fail
 refine (Dt _ a f l n p q).mono ?_;rintro e v ⟨⟨r,rfl,h⟩,j⟩;have k:=Kz h;clear h;by_cases m:0<=r
 .have s:decide (0<=r)=true:=by simpa using m
  go_wp2
  go_ret
  exact⟨Says.yes (by rcases k.o with⟨i,b,_,d⟩ | ⟨rfl,_⟩;exact⟨i,b,d⟩;omega),j⟩
 .have s:decide (0<=r)=false:=by simpa using m
  go_wp2
  go_ret
  exact⟨Says.no (by rcases k.o with⟨i,b,rfl,d⟩ | ⟨rfl,t⟩;omega;exact λ⟨i,b,d⟩=>t i b d),j⟩
theorem AA(w:NI)(a:NH)(f:Nat)(l:List Qz)(n:l.length<=maxLen)(p:∀c∈l,c.Fits)(q:bT w a l):
  Calls prog 93 #[.slice a l.length f,.func (.func 96) #[] #[]] w λe w'=>Says e (rq l mW)/\K_ w w':=by
 go_enter func93,ntmps93
 go_wp2_with fail
 refine (Gr _ a f l n p q).mono ?_;rintro e v ⟨⟨r,rfl,h⟩,j⟩;have k:=Kz h;clear h;by_cases m:0<=r
 .have s:decide (0<=r)=true:=by simpa using m
  go_wp2
  go_ret
  exact⟨Says.yes (by rcases k.o with⟨i,b,_,d⟩ | ⟨rfl,_⟩;exact⟨i,b,d⟩;omega),j⟩
 .have s:decide (0<=r)=false:=by simpa using m
  go_wp2
  go_ret
  exact⟨Says.no (by rcases k.o with⟨i,b,rfl,d⟩ | ⟨rfl,t⟩;omega;exact λ⟨i,b,d⟩=>t i b d),j⟩
def pQ(l:List Qz)(i:Nat):Prop:=Op.bytesLess (l.getD i Qz.zero).name.toList (l.getD (i+1) Qz.zero).name.toList=false
def iD(l:List Qz):Prop:=∃i,i+1<l.length/\pQ l i
def ET(l:List Qz)(k:Nat):Prop:=∀j,j+1<k->¬pQ l j
def bv(l:List Qz)(c:Int):Prop:=
 (60<l.length/\c=1)\/(¬60<l.length/\rq l jf/\c=2)\/(¬60<l.length/\¬rq l jf/\iD l/\c=3)\/
 (¬60<l.length/\¬rq l jf/\¬iD l/\rq l mW/\c=4)\/(¬60<l.length/\¬rq l jf/\¬iD l/\¬rq l mW/\c=0)
theorem bv.unique{l:List Qz}{c f:Int}(j:bv l c)(k:bv l f):c=f:=by
 rcases j with⟨a,rfl⟩ | ⟨a,d,rfl⟩ | ⟨a,d,h,rfl⟩ | ⟨a,d,h,m,rfl⟩ | ⟨a,d,h,m,rfl⟩ <;>
  rcases k with⟨b,rfl⟩ | ⟨b,e,rfl⟩ | ⟨b,e,i,rfl⟩ | ⟨b,e,i,n,rfl⟩ | ⟨b,e,i,n,rfl⟩ <;> first | rfl | contradiction
theorem gW(w:NI)(a:NH)(C:Nat)(l:List Qz)(hl:l.length<=maxLen)(U:∀s∈l,s.Fits)(J:bT w a l):
  Calls prog 25 #[.agg #[.slice a l.length C]] w fun e w'=>(∃c,e= .returned (.int .i64 c)/\bv l c)/\K_ w w':=by
 unfold maxLen at hl;have q:K_ w (w.alloc (.cells #[.slice a l.length C] 25)):=ah _ _;by_cases a6:(60:Int)<l.length
 ·go_enter func25,ntmps25
  go_wp2
  go_ret
  exact⟨⟨1,rfl,Or.inl ⟨by omega,rfl⟩⟩,q⟩
 ·have a2:decide ((60:Int)<l.length)=false:=by simpa using a6
  go_enter func25,ntmps25
  go_wp2
  clear a2;go_loopw [3] (fun i wr=>∃k:Nat,k<=l.length/\i= .int .i64 k/\K_ (w.alloc (.cells #[.slice a l.length C] 25)) wr/\Bn l jf k) (fun i _=>l.length-(intOf i).toNat)
  case atStart=>exact⟨0,Mg _,rfl,K_.refl _,fun j r=>aO r⟩
  case round=>
   obtain⟨k,V,rfl,d,t⟩:=hrel;have p:=Kz t;clear t;obtain⟨D,E⟩:=d.rules;have x:=d.size;simp only[MS] at x;by_cases m:k<l.length
   ·obtain⟨b,o,W,rfl,X,f,L,M,rfl,y⟩:=(J.kept q).kept d k m;have B:=U (l.getD k Qz.zero) (by simp[List.getD,m]);obtain⟨K,z⟩:=aj (l.getD k Qz.zero);rw[<-z] at f B;have F:=Kz z;clear z;have v:=f 0 _ rfl;simp only[M_] at v;clear f y;go_wp2_with fail
    refine (m_ _ K.name B.name).mono ?_;rintro e w1 ⟨A,G⟩;have a7:=Eq.symm G;clear G;subst a7;rcases A.cases with⟨rfl,H⟩|⟨rfl,I⟩
    ·have N:=Kz H;clear H A v;go_wp2
     go_roundw
     case rel=>
      refine⟨k+1,by omega,by go_num,d,fun j r=>?_⟩;by_cases e:j=k
      ·subst e;rw[<-F.o];exact fun h=>h N.o
      ·exact p.o j (by omega)
     case measure=>simp[intOf];omega
    ·have O:=Kz I;clear I A v;go_wp2
     go_ret
     exact⟨⟨2,rfl,Or.inr (Or.inl ⟨by omega,⟨k,m,by rw[<-F.o];exact O.o⟩,rfl⟩)⟩,q.trans d⟩
   ·have P:Hid (¬rq l jf):=fun ⟨i,Y,h⟩=>p.o i (by omega) h
    clear p;go_wp2
    clear D E x;go_loopw [4] (fun i Q=>∃n:Nat,1<=n/\n<=l.length+1/\i= .int .i64 n/\K_ (w.alloc (.cells #[.slice a l.length C] 25)) Q/\ET l n) (fun i _=>l.length+2-(intOf i).toNat)
    case atStart=>exact⟨1,by omega,by omega,rfl,d,fun j r=>Nv r (by omega)⟩
    case round=>
     clear d V m;obtain⟨n,a9,b0,rfl,d,t⟩:=hrel;have p:=Kz t;clear t;obtain⟨D,E⟩:=d.rules;have x:=d.size;simp only[MS] at x;by_cases m:n<l.length
     ·obtain⟨b,o,W,rfl,X,f,L,M,rfl,y⟩:=(J.kept q).kept d (n-1) (by omega);obtain⟨b',o',b1,Z,b2,R,ba,da,rfl,a8⟩:=(J.kept q).kept d n m;simp only[MV,ND,and_true] at Z;obtain⟨rfl,rfl⟩:=Z;obtain⟨a0,S⟩:=aj ((l.getD (n-1) Qz.zero));obtain⟨a1,T⟩:=aj ((l.getD n Qz.zero));rw[<-S] at f;rw[<-T] at R;have HX:Hid (l.getD (n-1) Qz.zero=a0):=S.symm;have a3:Hid (l.getD (n-1+1) Qz.zero=a1):=by rw[T,show n-1+1=n by omega];exact rfl
      clear S T y a8;have v:=f 0 _ rfl;have d0:=R 0 _ rfl;simp only[M_] at v d0;clear f R;have i0:(0:Int)<=(n:Int)-1:=by omega
      have i1:(n:Int)-1<(l.length:Int):=by omega
      cases a4:Op.bytesLess a0.name.toList a1.name.toList
      ·go_wp2
       go_region
       all_goals
        go_wp2
        go_ret
        exact⟨⟨3,rfl,Or.inr (Or.inr (Or.inl ⟨by omega,P.o,⟨n-1,by omega,by unfold pQ;rw[HX.o,a3.o];exact a4⟩,rfl⟩))⟩,q.trans (by repeat (first | apply K_.drew | exact d))⟩
      ·go_wp2
       go_region
       all_goals
        go_wp2
        go_roundw
        case rel=>
         refine⟨n+1,by omega,by omega,by go_num,by repeat (first | apply K_.drew | exact d),fun j r=>?_⟩;by_cases e:j=n-1
         ·subst e;unfold pQ;rw[HX.o,a3.o,a4];simp
         ·exact p.o j (by omega)
        case measure=>simp[intOf];omega
     ·have HC:Hid (¬iD l):=fun ⟨i,Y,h⟩=>p.o i (by omega) h
      clear p;go_wp2
      clear D E x;go_loopw [5] (fun i Q=>∃k:Nat,k<=l.length/\i= .int .i64 k/\K_ (w.alloc (.cells #[.slice a l.length C] 25)) Q/\Bn l mW k) (fun i _=>l.length-(intOf i).toNat)
      case atStart=>exact⟨0,Mg _,rfl,d,fun j r=>aO r⟩
      case round=>
       clear d m;obtain⟨k,V,rfl,d,t⟩:=hrel;have p:=Kz t;clear t;obtain⟨D,E⟩:=d.rules;have x:=d.size;simp only[MS] at x;by_cases m:k<l.length
       ·obtain⟨b,o,W,rfl,X,f,L,M,rfl,y⟩:=(J.kept q).kept d k m;have B:=U (l.getD k Qz.zero) (by simp[List.getD,m]);obtain⟨K,z⟩:=aj (l.getD k Qz.zero);rw[<-z] at f B y;have F:=Kz z;clear z;have v:=f 0 _ rfl;have c1:=f 1 _ rfl;have c2:=f 2 _ rfl;simp only[M_] at v;clear f;go_wp2_with fail
        refine (fI _ K.cost L M K.steps B.steps B.each y).mono ?_;rintro e w1 ⟨A,G⟩;have a5:=d.trans G;clear d G v c1 c2 y D E;rcases A.cases with⟨rfl,H⟩|⟨rfl,I⟩
        ·have N:=Kz H;clear H A;go_wp2
         go_roundw
         case rel=>
          refine⟨k+1,by omega,by go_num,a5,fun j r=>?_⟩;by_cases e:j=k
          ·subst e;rw[<-F.o];exact fun h=>h N.o
          ·exact p.o j (by omega)
         case measure=>simp[intOf];omega
        ·have O:=Kz I;clear I A;go_wp2
         go_ret
         exact⟨⟨4,rfl,Or.inr (Or.inr (Or.inr (Or.inl ⟨by omega,P.o,HC.o,⟨k,m,by rw[<-F.o];exact O.o⟩,rfl⟩)))⟩,q.trans a5⟩
       ·go_wp2
        go_ret
        exact⟨⟨0,rfl,Or.inr (Or.inr (Or.inr (Or.inr ⟨by omega,P.o,HC.o,fun ⟨i,Y,h⟩=>p.o i (by omega) h,rfl⟩)))⟩,q.trans d⟩
def EO :Prop:=∀(w:NI) (a:NH) (cap:Nat) (l:List Qz),l.length<=maxLen->bT w a l->
 Calls prog 95 #[.agg #[.slice a l.length cap,.func (.func 99) #[] #[]]] w λe w'=>Says e (¬iD l)/\K_ w w'
theorem Tryz.EE :(prog.info? 100).map (·.size)=some 2:=F4
theorem Dx(w:NI)(c:Array NJ)(t:TypeId):(w.alloc (.cells c t)).rangeAt w.heap.size 0 c.toList:=λj v a=>by
 rw[MM,World.cell?_alloc_mark];simpa using a
theorem xy(w:NI)(a:NH)(n b:Nat):
  Calls prog 46 #[.agg #[.slice a n b]] w λe w'=>e= .returned (.agg #[.slice a n b,.func (.func 99) #[] #[]])/\K_ w w':=by
 go_enter func46,ntmps46
 go_wp2
 have c:=Dx (w.alloc (.cells #[.slice a n b] 25)) #[.slice a n b,.func (.func 99) #[] #[]] 100;rw[MS] at c;exact Zx [.slice a n b,.func (.func 99) #[] #[]] _ results46 rfl c underlying100 rfl Tryz.EE rfl ⟨rfl,(ah _ _).alloc _⟩
theorem tT(C:Hid EO)(w:NI)(a:NH)(d:Nat)(l:List Qz)(j:l.length<=maxLen)(z:∀s∈l,s.Fits)(r:bT w a l):
  Calls prog 44 #[.agg #[.slice a l.length d]] w λe w'=>(∃c,e= .returned (.a c)/\bv l c)/\K_ w w':=by
 have D:=j;unfold maxLen at D;have t:K_ w (w.alloc (.cells #[.slice a l.length d] 25)):=ah _ _;by_cases I:(60:Int)<l.length
 .go_enter func44,ntmps44
  go_wp2
  go_ret
  exact⟨⟨1,rfl,Or.inl ⟨E5,rfl⟩⟩,t⟩
 .go_enter func44,ntmps44
  go_wp2_with fail
  refine (xV _ a d l j z (r.kept t)).mono ?_;rintro e E ⟨b,i⟩;have k:=t.trans i;rcases b.cases with⟨rfl,f⟩|⟨rfl,h⟩
  .have F:=Kz f;clear f b;go_wp2
   go_ret
   exact⟨⟨2,rfl,Or.inr (Or.inl ⟨E5,F.o,rfl⟩)⟩,k⟩
  .have v:=Kz h;clear h b;have A:E.cell? ⟨w.heap.size,0,none⟩=some (.slice a l.length d):=by rw[i.cell E9];simp
   go_wp2_with fail
   refine (xy _ a l.length d).mono ?_;rintro e J ⟨rfl,m⟩;have n:=k.trans m;go_wp2_with fail
   refine (bf C _ a d l j (r.kept n)).mono ?_;rintro e G ⟨b,p⟩;have x:=n.trans p;rcases b.cases with⟨rfl,f⟩|⟨rfl,h⟩
   .have q:=Kz f;clear f b;have K:G.cell? ⟨w.heap.size,0,none⟩=some (.slice a l.length d):=by rw[((i.trans m).trans p).cell E9];simp
    clear A i m p k n;go_wp2_with fail
    refine (AA _ a d l j z (r.kept x)).mono ?_;rintro e L ⟨b,H⟩;have B:=x.trans H;rcases b.cases with⟨rfl,f⟩|⟨rfl,h⟩
    .have y:=Kz f;clear f b;go_wp2
     go_ret
     exact⟨⟨4,rfl,Or.inr (Or.inr (Or.inr (Or.inl ⟨E5,v.o,q.o,y.o,rfl⟩)))⟩,B⟩
    .have y:=Kz h;clear h b;go_wp2
     go_ret
     exact⟨⟨0,rfl,Or.inr (Or.inr (Or.inr (Or.inr ⟨E5,v.o,q.o,y.o,rfl⟩)))⟩,B⟩
   .have q:=Kz h;clear h b i m p k n A;go_wp2
    go_ret
    exact⟨⟨3,rfl,Or.inr (Or.inr (Or.inl ⟨E5,v.o,Classical.not_not.1 q.o,rfl⟩))⟩,x⟩
theorem nJ(w:NI)(x y z:NJ)(s:NG)(b:x= .string s):
  Calls prog 99 #[.agg #[x,y,z]] w λe w'=>e= .returned (.string s)/\K_ w w':=by
 subst b;go_enter func99,ntmps99
 go_wp2
 go_ret
 exact⟨rfl,ah _ _⟩
theorem Gs{w a:NI}{x y:NJ}{t:TypeId}(K:K_ (w.alloc (.cells #[x,y] t)) a):a.cell? ⟨w.heap.size,0,none⟩=some x/\a.cell? ⟨w.heap.size,1,none⟩=some y:=by
 constructor
 .rw[K.cell E9];simp
 .rw[K.cell E9];simp
theorem fV{m:Int}(a: -9223372036854775808<=m)(h2:m<=9223372036854775807):IntKind.i64.wrap m=m:=by
 simp only[IntKind.wrap,IntKind.signed,IntKind.bits]
 first | omega | (simp;omega)
theorem xP(w:NI)(a:NH)(d:Nat)(l:List Qz)(S:l.length<=maxLen)(E:bT w a l):
  Calls prog 95 #[.agg #[.slice a l.length d,.func (.func 99) #[] #[]]] w fun e w'=>Says e (¬iD l)/\K_ w w':=by
 unfold maxLen at S;have p:K_ w (w.alloc (.cells #[.slice a l.length d,.func (.func 99) #[] #[]] 100)):=ah _ _;go_enter func95,ntmps95
 go_wp2
 go_loopw [3] (fun j wr=>∃n:Nat,1<=n/\n<=l.length+1/\j= .int .i64 n/\K_ (w.alloc (.cells #[.slice a l.length d,.func (.func 99) #[] #[]] 100)) wr/\ET l n) (fun j _=>l.length+2-(intOf j).toNat)
 case atStart=>exact⟨1,by omega,by omega,rfl,K_.refl _,fun q F=>Nv F (by omega)⟩
 case round=>
  obtain⟨n,a0,a1,rfl,f,G⟩:=hrel;have H:=Kz G;clear G;have T:=f.size;simp only[MS] at T;have I:w.heap.size<wr.heap.size:=by omega
  obtain⟨U,V⟩:=Gs f;by_cases W:n<l.length
  ·have J:K_ w wr:=p.trans f;obtain⟨b,o,cs,rfl,i,k,r,s,rfl,X⟩:=E.kept J (n-1) (by omega);obtain⟨b',o',a2,K,a3,m,t,v,rfl,Y⟩:=E.kept J n W;simp only[MV,ND,and_true] at K;obtain⟨rfl,rfl⟩:=K;obtain⟨x,z⟩:=aj ((l.getD (n-1) Qz.zero));obtain⟨y,A⟩:=aj ((l.getD n Qz.zero));rw[<-z] at k;rw[<-A] at m;have L:Hid (l.getD (n-1) Qz.zero=x):=z.symm;have M:Hid (l.getD (n-1+1) Qz.zero=y):=by rw[A,show n-1+1=n by omega];exact rfl
   clear z A X Y;have N:=k 0 _ rfl;have Z:=k 1 _ rfl;have c2:=k 2 _ rfl;have O:=m 0 _ rfl;have d1:=m 1 _ rfl;have d2:=m 2 _ rfl;simp only[M_] at N O;clear k m;have i0:(0:Int)<=(n:Int)-1:=by omega
   have i1:(n:Int)-1<(l.length:Int):=by omega
   have i2:(n:Int)<(l.length:Int):=by omega
   have i5:(1:Int)<=(n:Int):=by omega
   have i6:(n:Int)<=(l.length:Int):=by omega
   have i7:n<=l.length:=by omega
   have i3:((n:Int)-1).toNat=n-1:=by omega
   have i4:IntKind.i64.wrap ((n:Int)-1)= (n:Int)-1:=fV (by omega) (by omega);have P:∀w',K_ wr w'->(fun w'=>w'.cell? ⟨b,o+ (n-1)*3,none⟩=some (.string x.name)/\w'.cell? ⟨b,o+ (n-1)*3+1,none⟩=some (.int .i64 x.cost)/\w'.cell? ⟨b,o+ (n-1)*3+2,none⟩=some (.slice r x.steps.length s)/\w'.cell? ⟨b,o+n*3,none⟩=some (.string y.name)/\w'.cell? ⟨b,o+n*3+1,none⟩=some (.int .i64 y.cost)/\w'.cell? ⟨b,o+n*3+2,none⟩=some (.slice t y.steps.length v)/\w'.cell? ⟨w.heap.size,0,none⟩=some (.slice (some ⟨b,o,none⟩) l.length d)/\w'.cell? ⟨w.heap.size,1,none⟩=some (.func (.func 99) #[] #[])) w':=fun w' c=>⟨(K_.cell c i).trans N,(K_.cell c i).trans Z,(K_.cell c i).trans c2,(K_.cell c i).trans O,(K_.cell c i).trans d1,(K_.cell c i).trans d2,(K_.cell c I).trans U,(K_.cell c I).trans V⟩
   have Q:=Kz P;clear P;cases R:Op.bytesLess x.name.toList y.name.toList
   ·go_wp2
    go_region_held (fun w'=>w'.cell? ⟨b,o+ (n-1)*3,none⟩=some (.string x.name)/\w'.cell? ⟨b,o+ (n-1)*3+1,none⟩=some (.int .i64 x.cost)/\w'.cell? ⟨b,o+ (n-1)*3+2,none⟩=some (.slice r x.steps.length s)/\w'.cell? ⟨b,o+n*3,none⟩=some (.string y.name)/\w'.cell? ⟨b,o+n*3+1,none⟩=some (.int .i64 y.cost)/\w'.cell? ⟨b,o+n*3+2,none⟩=some (.slice t y.steps.length v)/\w'.cell? ⟨w.heap.size,0,none⟩=some (.slice (some ⟨b,o,none⟩) l.length d)/\w'.cell? ⟨w.heap.size,1,none⟩=some (.func (.func 99) #[] #[])) (exact bf Q _ (by repeat (first | apply K_.drew | exact K_.refl _ | assumption))) ((go_at_call 99;refine (nJ _ _ _ _ _ rfl).mono ?_;rintro e B ⟨rfl,C⟩;have c:K_ wr B:=K_.trans (by repeat (first | apply K_.drew | exact K_.refl _ | assumption)) C))
    all_goals
     have D:=f.trans c;go_wp2
     go_ret
     exact⟨Says.no fun h=>h ⟨n-1,by omega,by unfold pQ;rw[L.o,M.o];exact R⟩,p.trans (by repeat (first | apply K_.drew | exact D))⟩
   ·go_wp2
    go_region_held (fun w'=>w'.cell? ⟨b,o+ (n-1)*3,none⟩=some (.string x.name)/\w'.cell? ⟨b,o+ (n-1)*3+1,none⟩=some (.int .i64 x.cost)/\w'.cell? ⟨b,o+ (n-1)*3+2,none⟩=some (.slice r x.steps.length s)/\w'.cell? ⟨b,o+n*3,none⟩=some (.string y.name)/\w'.cell? ⟨b,o+n*3+1,none⟩=some (.int .i64 y.cost)/\w'.cell? ⟨b,o+n*3+2,none⟩=some (.slice t y.steps.length v)/\w'.cell? ⟨w.heap.size,0,none⟩=some (.slice (some ⟨b,o,none⟩) l.length d)/\w'.cell? ⟨w.heap.size,1,none⟩=some (.func (.func 99) #[] #[])) (exact bf Q _ (by repeat (first | apply K_.drew | exact K_.refl _ | assumption))) ((go_at_call 99;refine (nJ _ _ _ _ _ rfl).mono ?_;rintro e B ⟨rfl,C⟩;have c:K_ wr B:=K_.trans (by repeat (first | apply K_.drew | exact K_.refl _ | assumption)) C))
    all_goals
     have D:=f.trans c;go_wp2
     go_roundw
     case rel=>
      refine⟨n+1,by omega,by omega,by go_num,by repeat (first | apply K_.drew | exact D),fun q F=>?_⟩;by_cases e:q=n-1
      ·subst e;unfold pQ;rw[L.o,M.o,R];simp
      ·exact H.o q (by omega)
     case measure=>simp[intOf];omega
  ·go_wp2
   go_ret
   exact⟨Says.yes fun ⟨j,hi,h⟩=>H.o j (by omega) h,p.trans f⟩
theorem JL :EO:=λw a c l e f=>xP w a c l e f
def jZ(x y:List UInt8):Int:=if Op.bytesLess x y=true then -1 else if x=y then 0 else 1
theorem oV(w:NI)(x y:NG):Calls prog 145 #[.string x,.string y] w λe w'=>e= .returned (.a (jZ x.toList y.toList))/\w'=w:=by
 cases a:Op.bytesLess x.toList y.toList
 .cases b:(x.toList == y.toList)
  .go_enter func145,ntmps145
   go_wp2
   go_ret
   exact⟨uX (by unfold jZ;rw[Nu (by rw[a];simp),Nu (by simpa using b)]),rfl⟩
  .go_enter func145,ntmps145
   go_wp2
   go_ret
   exact⟨uX (by unfold jZ;rw[Nu (by rw[a];simp),Nt (by simpa using b)]),rfl⟩
 .go_enter func145,ntmps145
  go_wp2
  go_ret
  exact⟨uX (by unfold jZ;rw[Nt a]),rfl⟩
theorem um(w:NI)(g:Nat)(d:Qz)(a:NH)(f:Nat)(b:NG)(j:g<w.heap.size)(k:w.cell? ⟨g,1,none⟩=some (.func (.func 99) #[] #[])):
  Calls prog 144 #[.agg #[.string d.name,.a d.cost,.slice a d.steps.length f],.string b,.c g] w λe w'=>e= .returned (.a (jZ d.name.toList b.toList))/\K_ w w':=by
 go_enter func144,ntmps144
 go_wp2_with fail
 refine (nJ _ _ _ _ d.name rfl).mono ?_;rintro e h ⟨rfl,c⟩;have i:K_ w h:=K_.trans H6 c;clear c;go_wp2_with fail
 refine (oV _ d.name b).mono ?_;rintro e l ⟨rfl,rfl⟩;go_wp2
 go_ret
 exact⟨rfl,i⟩
theorem wu{x y:List UInt8}:jZ x y<0↔Op.bytesLess x y=true:=by
 unfold jZ;by_cases h:Op.bytesLess x y=true
 .rw[Nt h];exact⟨λ_=>h,λ_=>E5⟩
 .rw[Nu h];refine⟨λg=>?_,λg=>Nv g h⟩
  split at g <;> omega
theorem tQ{x y:List UInt8}:jZ x y=0↔x=y:=by
 unfold jZ;by_cases h:Op.bytesLess x y=true
 .rw[Nt h];refine⟨λg=>E5,λg=>?_⟩;rw[g,dO] at h;cases h
 .rw[Nu h];by_cases e:x=y
  .rw[Nt e];exact⟨λ_=>e,λ_=>rfl⟩
  .rw[Nu e];exact⟨λg=>E5,λg=>Nv g e⟩
def Found(l:List Qz)(key:List UInt8)(e:Ending):Prop:=∃(p:Nat) (f:Bool),e= .returned (.tuple #[.a p,.bool f])/\Place l key p/\(f=true↔p<l.length/\nameAt l p=key)
theorem Found.mk{l:List Qz}{a:List UInt8}{e:Ending}(p:Nat)(f:Bool)(b:e= .returned (.tuple #[.a p,.bool f]))(h2:Place l a p)(c:f=true↔p<l.length/\nameAt l p=a):Found l a e:=⟨p,f,b,h2,c⟩
theorem DU(w:NI)(g:Nat)(a:NH)(Y:Nat)(l:List Qz)(c:NG)(hl:l.length<=1048576)(N:fP l)(y:g<w.heap.size)(O:w.cell? ⟨g,1,none⟩=some (.func (.func 99) #[] #[]))(P:bT w a l):
  Calls prog 143 #[.slice a l.length Y,.string c,.func (.func 144) #[] #[.c g]] w
   λe w'=>Found l c.toList e/\K_ w w':=by
 have Q:=Kz N;clear N;go_enter func143,ntmps143
 go_wp2
 go_loopw [9,10] (λB C wr=>∃i j:Nat,B= .a i/\C= .a j/\i<=j/\j<=l.length/\(∀t,t<i->Op.bytesLess (nameAt l t) c.toList=true)/\(∀t,j<=t->t<l.length->Op.bytesLess (nameAt l t) c.toList=false)/\K_ w wr) (λB C _=>(intOf C).toNat-(intOf B).toNat)
 case atStart=>exact⟨0,l.length,rfl,rfl,Mg _,Me _,λt R=>aO R,λt Z S=>E5,K_.refl _⟩
 case round=>
  obtain⟨i,j,rfl,rfl,a4,T,p,q,d⟩:=hrel;have r:=Kz (And.intro p q);clear p q;by_cases a5:(i:Int)<j
  .obtain⟨h,U⟩:∃h:Nat,h= (i+j) / 2:=⟨_,rfl⟩;have V:h<l.length:=E5;have a0:i<=h:=E5;have a6:h<j:=E5;obtain⟨b,o,cs,rfl,hb,f,D,E,rfl,F⟩:=P.kept d h V;obtain⟨k,m⟩:=aj (l.getD h Qz.zero);rw[<-m] at f;have G:=Kz m;clear m F;have s:=f 0 _ rfl;have H:=f 1 _ rfl;have I:=f 2 _ rfl;simp only[M_] at s;clear f;have a7:((i:Int)+ (j:Int)) / 2= (h:Int):=E5;have HH:=Kz U;clear U;have J:g<wr.heap.size:=Mf y d.size;have K:wr.cell? ⟨g,1,none⟩=some (.func (.func 99) #[] #[]):=by rw[d.cell y];exact O
   go_wp2_with fail
   refine (um _ g k D E c J K).mono ?_;rintro e w1 ⟨rfl,v⟩;have x:nameAt l h=k.name.toList:=by unfold nameAt;rw[<-G.o]
   have z:Hid (jZ k.name.toList c.toList<0↔Op.bytesLess (nameAt l h) c.toList=true):=by rw[x];exact wu
   clear s H I x;generalize jZ k.name.toList c.toList=W at *;have A:=d.trans v;clear d v;by_cases a1:W<0
   .go_wp2
    go_roundw
    case rel=>
     obtain⟨p,q⟩:=r.o;refine⟨h+1,j,F3,rfl,E5,T,λt R=>?_,q,A⟩;have n:=z.o.1 a1;by_cases e:t=h
     .subst e;exact n
     .exact eY _ _ _ (Q.o t h E5 V) n
    case measure=>simp[intOf];omega
   .go_wp2
    go_roundw
    case rel=>
     obtain⟨p,q⟩:=r.o;refine⟨i,h,rfl,F3,a0,E5,p,λt Z S=>?_,A⟩;have n:Op.bytesLess (nameAt l h) c.toList=false:=by
      cases L:Op.bytesLess (nameAt l h) c.toList
      .rfl
      .have:=z.o.2 L;omega
     by_cases e:t=h
     .subst e;exact n
     .cases L:Op.bytesLess (nameAt l t) c.toList
      .rfl
      .rw[eY _ _ _ (Q.o h t E5 S) L] at n;cases n
    case measure=>simp[intOf];omega
  .have a2:i=j:=E5;subst a2;have X:Hid (Place l c.toList i):=⟨T,r.o.1,r.o.2⟩;clear r;by_cases M:i<l.length
   .obtain⟨b,o,cs,rfl,hb,f,D,E,rfl,F⟩:=P.kept d i M;obtain⟨k,m⟩:=aj (l.getD i Qz.zero);rw[<-m] at f;have G:=Kz m;clear m F;have s:=f 0 _ rfl;have H:=f 1 _ rfl;have I:=f 2 _ rfl;simp only[M_] at s;clear f;have J:g<wr.heap.size:=Mf y d.size;have K:wr.cell? ⟨g,1,none⟩=some (.func (.func 99) #[] #[]):=by rw[d.cell y];exact O
    have a3:(i:Int)<l.length:=E5;go_wp2_with fail
    refine (um _ g k D E c J K).mono ?_;rintro e w1 ⟨rfl,v⟩;have x:nameAt l i=k.name.toList:=by unfold nameAt;rw[<-G.o]
    have z:Hid (jZ k.name.toList c.toList=0↔nameAt l i=c.toList):=by rw[x];exact tQ
    clear s H I x;generalize jZ k.name.toList c.toList=W at *;have A:=d.trans v;clear d v;go_wp2
    go_ret2
    refine⟨Found.mk i _ rfl X.o ?_,A⟩;rw[<-z.o];simp[M]
   .have a3:¬(i:Int)<l.length:=E5;go_wp2
    go_ret2
    exact⟨Found.mk i false rfl X.o (by simp;intro h;exact Nv h M),d⟩
theorem Ib(w:NI)(a:NH)(b:Nat)(l:List Qz)(c:NG)(i:l.length<=1048576)(j:fP l)(k:bT w a l):
  Calls prog 100 #[.agg #[.slice a l.length b,.func (.func 99) #[] #[]],.string c] w
   λe w'=>Found l c.toList e/\K_ w w':=by
 have d:K_ w (w.alloc (.cells #[.slice a l.length b,.func (.func 99) #[] #[]] 100)):=ah _ _;go_enter func100,ntmps100
 go_wp2_with fail
 refine (DU _ w.heap.size a b l c i j E9 E9 (k.kept d)).mono ?_;rintro e t ⟨m,n⟩;obtain⟨p,q,rfl,f,h⟩:=m;have⟨r,s⟩:=aH f h;clear f h;go_wp2
 go_ret2
 exact⟨Found.mk p q rfl r.o s.o,d.trans n⟩
theorem z_{w a:NI}{x:NJ}{t:TypeId}(K:K_ (w.alloc (.cells #[x] t)) a):a.cell? ⟨w.heap.size,0,none⟩=some x:=by
 rw[K.cell E9];simp
theorem Cx(w:NI)(cost j:Int)(a d:NH)(t N:Nat)(l:List Xq)(ans:List Xz)(D:l.length<=maxLen)(E:∀s∈l,s.Fits)(F:Steps w a l)
  (O:ans.length<=maxLen) (_has:∀c∈ans,c.text.size<=maxLen) (_hD:fw w d ans)
  (P:Hid (¬(nK cost l j/\ans.length= (jC l j).asks.length))):
  Calls prog 123 #[.agg #[.a cost,.slice a l.length t],.a j,.slice d ans.length N] w λe w'=>(∃g,e= .returned (.agg g.cells.toArray)/\kH cost l j ans g)/\K_ w w':=by
 have Q:=D;have R:=O;unfold maxLen at Q R;have v:K_ w ((w.alloc (.cells #[.a cost,.slice a l.length t] 73)).alloc (.cells #[.a 0,.bool false,.a 0,.string ⟨#[]⟩] 186)):=(ah _ _).alloc _;go_enter func123,ntmps123
 go_wp2_with fail
 refine (fI _ cost a t l D E (F.kept v)).mono ?_;rintro e k ⟨B,p⟩;have q:=v.trans p;have G:Row k (w.heap.size+1) 4:=Row.kept (by have:=Row.made (w.alloc (.cells #[.a cost,.slice a l.length t] 73)) #[.a 0,.bool false,.a 0,.string ⟨#[]⟩] 186;simpa using this) p;have r:=Kz G;clear G;obtain⟨a1,a2⟩:=p.rules;have S:=p.size;simp only[MS] at S;have x0:w.heap.size<k.heap.size:=E5;have x1:w.heap.size+1<k.heap.size:=E5;rcases B.cases with⟨rfl,H⟩|⟨rfl,I⟩
 .have x:=Kz H;clear H B v p;by_cases T:0<=j
  .cases J:decide (j<=(l.length:Int)-1)
   .have U:(l.length:Int)-1<j:=by simpa using J
    go_wp2
    have i:=Mi k (w.heap.size+1) 0 bW.none.cells (r.o.there (o:=0) (m:=4) (Me _));exact Zx bW.none.cells _ results123 rfl i underlying186 rfl Tryz.dQ rfl ⟨⟨_,rfl,Or.inl ⟨λh=>(by have:=h.2.1;omega),rfl⟩⟩,K_.setCells (g:=w.heap.size+1) E5 bW.none.cells 0 q⟩
   .have U:j<=(l.length:Int)-1:=by simpa using J
    obtain⟨n,rfl⟩:=Int.eq_ofNat_of_zero_le T;have C:n<l.length:=E5;obtain⟨b,o,cs,rfl,hb,f,aa,ca,ac,cc,rfl,V,W,X⟩:=F.kept q n C;have Y:=E (l.getD n Xq.zero) (by simp[List.getD,C]);obtain⟨s,y⟩:=aj (l.getD n Xq.zero);rw[<-y] at f Y V W X;have z:Hid (jC l n=s):=by rw[y];show Hid (l.getD (n:Int).toNat Xq.zero=_);rw[Int.toNat_natCast];exact rfl
    have a3:Hid (kN s l.length):=by rw[y];exact x.o.2.2 n C
    clear y;have Z:=f 0 _ rfl;have c1:=f 1 _ rfl;have c2:=f 2 _ rfl;have c3:=f 3 _ rfl;have c4:=f 4 _ rfl;have K:=f 5 _ rfl;have c6:=f 6 _ rfl;have c7:=f 7 _ rfl;simp only[M_] at Z;clear f;cases A:s.fin
    .rw[A] at K;have L:Hid (nK cost l n):=⟨x.o,⟨E5,E5⟩,by rw[z.o];exact A⟩;have M:ans.length≠s.asks.length:=λh=>P.out ⟨L.o,by rw[z.o];exact h⟩
     have a4:((ans.length:Int) != (s.asks.length:Int))=true:=F6;have a0:=Kz M;clear M;go_wp2
     have i:=Mi k (w.heap.size+1) 0 bW.none.cells (r.o.there (o:=0) (m:=4) (Me _));exact Zx bW.none.cells _ results123 rfl i underlying186 rfl Tryz.dQ rfl ⟨⟨_,rfl,Or.inr ⟨L.o,Or.inl ⟨λh=>a0.o (by have:=h.1;rw[z.o] at this;exact this),rfl⟩⟩⟩,K_.setCells (g:=w.heap.size+1) E5 bW.none.cells 0 q⟩
    .rw[A] at K;go_wp2
     have i:=Mi k (w.heap.size+1) 0 bW.none.cells (r.o.there (o:=0) (m:=4) (Me _));exact Zx bW.none.cells _ results123 rfl i underlying186 rfl Tryz.dQ rfl ⟨⟨_,rfl,Or.inl ⟨λh=>(by have:=h.2.2;rw[z.o,A] at this;cases this),rfl⟩⟩,K_.setCells (g:=w.heap.size+1) E5 bW.none.cells 0 q⟩
  .skip
   go_wp2
   have i:=Mi k (w.heap.size+1) 0 bW.none.cells (r.o.there (o:=0) (m:=4) (Me _));exact Zx bW.none.cells _ results123 rfl i underlying186 rfl Tryz.dQ rfl ⟨⟨_,rfl,Or.inl ⟨λh=>(by have:=h.2.1;omega),rfl⟩⟩,K_.setCells (g:=w.heap.size+1) E5 bW.none.cells 0 q⟩
 .have x:=Kz I;clear I B v p;go_wp2
  have i:=Mi k (w.heap.size+1) 0 bW.none.cells (r.o.there (o:=0) (m:=4) (Me _));exact Zx bW.none.cells _ results123 rfl i underlying186 rfl Tryz.dQ rfl ⟨⟨_,rfl,Or.inl ⟨λh=>x.o h.1,rfl⟩⟩,K_.setCells (g:=w.heap.size+1) E5 bW.none.cells 0 q⟩
theorem AQ(w:NI)(cost A:Int)(a d:NH)(M d2:Nat)(l:List Xq)(ans:List Xz)(hl:l.length<=maxLen)(hs:∀s∈l,s.Fits)(hS:Steps w a l)
  (d3:ans.length<=maxLen) (d4:∀c∈ans,c.text.size<=maxLen) (V:fw w d ans)
  (hF:nK cost l A) (hE:ans.length= (jC l A).asks.length):
  Calls prog 123 #[.agg #[.a cost,.slice a l.length M],.a A,.slice d ans.length d2] w λe w'=>(∃g,e= .returned (.agg g.cells.toArray)/\kH cost l A ans g)/\K_ w w':=by
 have⟨B,a5⟩:=aH hF hE;clear hF hE;have d5:=hl;have d6:=d3;unfold maxLen at d5 d6;have W:K_ w ((w.alloc (.cells #[.a cost,.slice a l.length M] 73)).alloc (.cells #[.a 0,.bool false,.a 0,.string ⟨#[]⟩] 186)):=(ah _ _).alloc _;go_enter func123,ntmps123
 go_wp2_with fail
 refine (fI _ cost a M l hl hs (hS.kept W)).mono ?_;rintro e f ⟨a6,F⟩;have C:=W.trans F;have a7:Row f (w.heap.size+1) 4:=Row.kept (by have:=Row.made (w.alloc (.cells #[.a cost,.slice a l.length M] 73)) #[.a 0,.bool false,.a 0,.string ⟨#[]⟩] 186;simpa using this) F;have G:=Kz a7;clear a7;obtain⟨f6,f7⟩:=F.rules;have d7:=F.size;simp only[MS] at d7;have x0:w.heap.size<f.heap.size:=E5;have x1:w.heap.size+1<f.heap.size:=E5;rcases a6.cases with⟨rfl,a8⟩|⟨rfl,d8⟩
 .have HV:=Kz a8;clear a8 a6 W F;have p1:0<=A:=B.o.2.1.1;have p2:A<l.length:=B.o.2.1.2;obtain⟨v,rfl⟩:=Int.eq_ofNat_of_zero_le p1;have X:v<l.length:=E5;obtain⟨b,o,cs,rfl,hb,q,H,I,J,K,rfl,hA,hC,d9⟩:=hS.kept C v X;have a9:=hs (l.getD v Xq.zero) (by simp[List.getD,X]);obtain⟨s,N⟩:=aj (l.getD v Xq.zero);rw[<-N] at q a9 hA hC d9;have x:Hid (jC l v=s):=by rw[N];show Hid (l.getD (v:Int).toNat Xq.zero=_);rw[Int.toNat_natCast];exact rfl
  have e0:Hid (kN s l.length):=by rw[N];exact HV.o.2.2 v X
  clear N;have c0:=q 0 _ rfl;have c1:=q 1 _ rfl;have e1:=q 2 _ rfl;have e2:=q 3 _ rfl;have e3:=q 4 _ rfl;have c5:=q 5 _ rfl;have c6:=q 6 _ rfl;have c7:=q 7 _ rfl;simp only[M_] at c0;clear q;have b0:s.fin=false:=by have:=B.o.2.2;rw[x.o] at this;exact this
  rw[b0] at c5;have O:Hid (ans.length=s.asks.length):=by have:=a5.o;rw[x.o] at this;exact this
  have f8:((ans.length:Int) != (s.asks.length:Int))=false:=by have:=O.o;simp;omega
  have D:Hid (nK cost l v):=B.o;have b2:Hid (Fb s l.length):=e0.o.2 b0;clear B a5;have P:K_ f (f.alloc (.cells #[.slice H s.asks.length I,.a s.on,.slice J s.cases.length K,.a s.els,.a s.fall,.bool false,.bool s.bad,.string s.give] 176)):=ah _ _;have Y:=C.trans P;have e4:=Kz (G.o.kept P);go_wp2_with (go_at_call 65;refine (wV _ _ _ _ E5 E5).mono ?_;rintro e w' ⟨rfl,b3⟩;have e5:=Eq.symm b3;clear b3;subst e5)
  clear c0 c1 e1 e2 e3 c5 c6 c7;go_loop [8] (λi=>∃k:Nat,k<=ans.length/\i= .a k/\l_ ans ow k) (λi=>ans.length-(intOf i).toNat)
  case atStart=>exact⟨0,Mg _,rfl,λj r=>aO r⟩
  case round=>
   obtain⟨k,Z,rfl,y⟩:=hrel;have h:=Kz y;clear y;by_cases Q:k<ans.length
   .obtain⟨b1,o1,rfl,e6,z⟩:=V.kept Y k Q;have b4:(ans.getD k Xz.zero).text.size<=maxLen:=d4 _ (by simp[List.getD,Q]);obtain⟨c,n⟩:=aj (ans.getD k Xz.zero);rw[<-n] at z b4;have t:=Kz n;clear n;unfold maxLen at b4;have d1:=z 1 _ rfl;clear z;by_cases f9:(200:Int)<c.text.size
    .skip
     go_wp2
     have p:=World.rangeAt_alloc (Mi f (w.heap.size+1) 0 bW.none.cells (G.o.there (o:=0) (m:=4) (Me _))) (.cells #[.slice H s.asks.length I,.a s.on,.slice J s.cases.length K,.a s.els,.a s.fall,.bool false,.bool s.bad,.string s.give] 176);exact Zx bW.none.cells _ results123 rfl p underlying186 rfl Tryz.dQ rfl ⟨⟨_,rfl,Or.inr ⟨D.o,by rw[x.o];exact Or.inl ⟨λa0=>a0.2 ⟨k,Q,by unfold ow;rw[<-t.o];omega⟩,rfl⟩⟩⟩,K_.alloc (K_.setCells (g:=w.heap.size+1) E5 bW.none.cells 0 C) _⟩
    .go_wp2
     go_round
     case rel=>
      refine⟨k+1,E5,F3,λj r=>?_⟩;by_cases e:j=k
      .subst e;unfold ow;rw[<-t.o];omega
      .exact h.o j E5
     case measure=>simp[intOf];omega
   .have L:Hid (xg s ans):=⟨O.o,λ⟨i,hi,a0⟩=>h.o i E5 a0⟩;clear h;go_wp2
    go_loop [9] (λi=>∃k:Nat,k<=ans.length/\i= .a k/\l_ ans iy k) (λi=>ans.length-(intOf i).toNat)
    case atStart=>exact⟨0,Mg _,rfl,λj r=>aO r⟩
    case round=>
     clear Z Q;obtain⟨k,Z,rfl,y⟩:=hrel;have h:=Kz y;clear y;by_cases a1:k<ans.length
     .obtain⟨b1,o1,rfl,e6,z⟩:=V.kept Y k a1;obtain⟨c,n⟩:=aj (ans.getD k Xz.zero);rw[<-n] at z;have t:=Kz n;clear n;have d0:=z 0 _ rfl;simp only[M_] at d0;clear z;cases R:c.fail
      .rw[R] at d0;go_wp2
       go_round
       case rel=>
        refine⟨k+1,E5,F3,λj r=>?_⟩;by_cases e:j=k
        .subst e;unfold iy;rw[<-t.o,R];simp
        .exact h.o j E5
       case measure=>simp[intOf];omega
      .rw[R] at d0;have HP:Hid (iy (ans.getD k Xz.zero)):=by rw[<-t.o];exact R
       cases b5:(s.fall == -1)
       .skip
        go_wp2
        have p:=World.rangeAt_alloc (Mi f (w.heap.size+1) 0 [.a 0,.bool false,.a s.fall,.string ⟨#[]⟩] (G.o.there (o:=0) (m:=4) (Me _))) (.cells #[.slice H s.asks.length I,.a s.on,.slice J s.cases.length K,.a s.els,.a s.fall,.bool false,.bool s.bad,.string s.give] 176);exact Zx [.a 0,.bool false,.a s.fall,.string ⟨#[]⟩] _ results123 rfl p underlying186 rfl Tryz.dQ rfl ⟨⟨⟨0,false,s.fall,⟨#[]⟩⟩,rfl,Or.inr ⟨D.o,by rw[x.o];exact Or.inr ⟨L.o,Or.inl ⟨k,a1,HP.o,h.o,Or.inr ⟨by simpa using b5,rfl⟩⟩⟩⟩⟩,K_.alloc (K_.setCells (g:=w.heap.size+1) E5 [.a 0,.bool false,.a s.fall,.string ⟨#[]⟩] 0 C) _⟩
       .have b6:k<s.asks.length:=by have:=O.o;omega
        obtain⟨g0,o6,rfl,g1,e7⟩:=hA.kept P k b6;have e8:(s.asks.getD k ByteArray.empty).size<=20:=(b2.o.1.2.2.2.1 k b6).1.2.1;obtain⟨a2,hv⟩:=aj (s.asks.getD k ByteArray.empty);rw[<-hv] at e7 e8;have e9:=Kz hv;clear hv;go_wp2
        have p:=Mi f (w.heap.size+1) 0 [.a 0,.bool true,.a 0,.string ((⟨#[98,101,108,111,119,32]⟩:NG)++a2)] (G.o.there (o:=0) (m:=4) (Me _));exact Zx [.a 0,.bool true,.a 0,.string ((⟨#[98,101,108,111,119,32]⟩:NG)++a2)] _ results123 rfl (World.rangeAt_alloc p _) underlying186 rfl Tryz.dQ rfl ⟨⟨⟨0,true,0,_⟩,rfl,Or.inr ⟨D.o,by rw[x.o];exact Or.inr ⟨L.o,Or.inl ⟨k,a1,HP.o,h.o,Or.inl ⟨by simpa using b5,by unfold jH;rw[<-e9.o]⟩⟩⟩⟩⟩,K_.alloc (K_.setCells (g:=w.heap.size+1) E5 [.a 0,.bool true,.a 0,.string ((⟨#[98,101,108,111,119,32]⟩:NG)++a2)] 0 C) _⟩
     .have a3:Hid (l_ ans iy ans.length):=λj r=>h.o j E5
      clear h;cases S:((ans.length:Int) == 0)
      .have b7:ans.length≠0:=by simp at S;simpa using S
       have b8:=Kz b7;have f0:0<=s.on/\s.on<ans.length:=by have h1:=b2.o.1.2.2.2.2.2.2.2;have h2:=O.o;omega
       obtain⟨q1,q2⟩:=f0;clear b7;obtain⟨a4,b9⟩:=aj (lW ans s.on);have T:=Kz b9;clear b9;have f1:s.on.toNat<ans.length:=E5;have f2:=a9.cases;unfold maxLen at f2;go_wp2
       go_loopw [10] (λi wr=>∃k:Nat,k<=s.cases.length/\i= .a k/\K_ (f.alloc (.cells #[.slice H s.asks.length I,.a s.on,.slice J s.cases.length K,.a s.els,.a s.fall,.bool false,.bool s.bad,.string s.give] 176)) wr/\CaseTo s a4 k) (λi _=>s.cases.length-(intOf i).toNat)
       case atStart=>exact⟨0,Mg _,rfl,K_.refl _,λj r=>aO r⟩
       case round=>
        obtain⟨k,Z,rfl,E,y⟩:=hrel;have h:=Kz y;clear y;have k3:K_ w wr:=Y.trans E;obtain⟨g2,g3⟩:=E.rules;have f3:=E.size;simp only[MS] at f3;have c2:=Kz (e4.o.kept E);have v0:w.heap.size+1<f.heap.size+1:=E5;have v1:f.heap.size<f.heap.size+1:=E5;by_cases c3:k<s.cases.length
        .obtain⟨g4,o3,rfl,g5,U⟩:=(hC.kept P).kept E k c3;obtain⟨g6,o4,f4,g7,c4⟩:=V.kept k3 s.on.toNat f1;obtain⟨c,n⟩:=aj (s.cases.getD k bO.zero);rw[<-n] at U;have t:=Kz n;clear n;have f5:=U 0 _ rfl;have g8:=U 1 _ rfl;have d1:=c4 1 _ rfl;simp only[M_] at f5;have c8:(ans.getD s.on.toNat Xz.zero).text=a4:=by have h1:=T.o;unfold lW at h1;exact h1.symm
         rw[c8] at d1;subst f4;clear U c4 c8;cases c9:(c.text.toList == a4.toList)
         .go_wp2
          go_region
          all_goals
           go_wp2
           go_roundw
           case rel=>
            refine⟨k+1,E5,F3,by repeat (first | apply K_.drew | exact E),λj r=>?_⟩;by_cases e:j=k
            .subst e;unfold sJ;rw[<-t.o];exact rX c9
            .exact h.o j E5
           case measure=>simp[intOf];omega
         .go_wp2
          go_region
          all_goals
           go_wp2
           have p:=Mi wr.drew (w.heap.size+1) 0 [.a 0,.bool false,.a c.goto,.string ⟨#[]⟩] (Row.there (Row.kept c2.o (K_.drew (K_.refl _))) (o:=0) (m:=4) (Me _));exact Zx [.a 0,.bool false,.a c.goto,.string ⟨#[]⟩] _ results123 rfl p underlying186 rfl Tryz.dQ rfl ⟨⟨⟨0,false,c.goto,⟨#[]⟩⟩,rfl,Or.inr ⟨D.o,by rw[x.o];exact Or.inr ⟨L.o,Or.inr ⟨a3.o,c.goto,Or.inr ⟨b8.o,Or.inl ⟨k,c3,by unfold sJ;rw[<-t.o,<-T.o];exact oZ.1 c9,by rw[<-T.o];exact h.o,by unfold DL;rw[<-t.o]⟩⟩,rfl⟩⟩⟩⟩,K_.setCells (g:=w.heap.size+1) E5 [.a 0,.bool false,.a c.goto,.string ⟨#[]⟩] 0 k3.drew⟩
        .skip
         go_wp2
         have p:=Mi wr (w.heap.size+1) 0 [.a 0,.bool false,.a s.els,.string ⟨#[]⟩] (c2.o.there (o:=0) (m:=4) (Me _));exact Zx [.a 0,.bool false,.a s.els,.string ⟨#[]⟩] _ results123 rfl p underlying186 rfl Tryz.dQ rfl ⟨⟨⟨0,false,s.els,⟨#[]⟩⟩,rfl,Or.inr ⟨D.o,by rw[x.o];exact Or.inr ⟨L.o,Or.inr ⟨a3.o,s.els,Or.inr ⟨b8.o,Or.inr ⟨by rw[<-T.o];exact λj r=>h.o j E5,rfl⟩⟩,rfl⟩⟩⟩⟩,K_.setCells (g:=w.heap.size+1) E5 [.a 0,.bool false,.a s.els,.string ⟨#[]⟩] 0 k3⟩
      .skip
       go_wp2
       have p:=World.rangeAt_alloc (Mi f (w.heap.size+1) 0 [.a 0,.bool false,.a s.els,.string ⟨#[]⟩] (G.o.there (o:=0) (m:=4) (Me _))) (.cells #[.slice H s.asks.length I,.a s.on,.slice J s.cases.length K,.a s.els,.a s.fall,.bool false,.bool s.bad,.string s.give] 176);exact Zx [.a 0,.bool false,.a s.els,.string ⟨#[]⟩] _ results123 rfl p underlying186 rfl Tryz.dQ rfl ⟨⟨⟨0,false,s.els,⟨#[]⟩⟩,rfl,Or.inr ⟨D.o,by rw[x.o];exact Or.inr ⟨L.o,Or.inr ⟨a3.o,s.els,Or.inl ⟨by simp at S;simpa using S,rfl⟩,rfl⟩⟩⟩⟩,K_.alloc (K_.setCells (g:=w.heap.size+1) E5 [.a 0,.bool false,.a s.els,.string ⟨#[]⟩] 0 C) _⟩
 .exact Nv B.o.1 d8
