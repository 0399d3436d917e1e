import Derived.Test.YtbmhchdegdjfkaaGreatDoorKWGo5
import Derived.Test.YtbmhchdegdjfkaaGreatDoorKOConcat
import Derived.Laws.EntriesVeiled
set_option maxRecDepth 100000
set_option maxHeartbeats 25600000
namespace Go.Proofs.YtbmhchdegdjfkaaGreatDoor
open Go.RowKit Go.Proofs.Tryz
def zX(l:List Qq)(p:Qq->Prop)(k:Nat):Prop:=∀j,j<k->¬p (l.getD j Qq.zero)
def qw(l:List Qq)(p:Qq->Prop):Prop:=∃i,i<l.length/\p (l.getD i Qq.zero)
def FQ(l:List Qq)(p:Qq->Prop)(r:Int):Prop:=
 (∃i,i<l.length/\r= (i:Int)/\p (l.getD i Qq.zero))\/(r= -1/\zX l p l.length)
def iT(d:Qq):Prop:=¬iM d.name
def mg(d:Qq):Prop:=¬fU ⟨d.cost,d.steps⟩
theorem uD(w:LP)(d:Qq)(a:LM)(f:Nat)(m:d.Fits):
  Calls prog 129 #[.agg #[.string d.name,.int .i64 d.cost,.slice a d.steps.length f]] w fun e w'=>Says e (iT d)/\K_ w w':=by
 have h:K_ w (w.alloc (.cells #[.string d.name,.int .i64 d.cost,.slice a d.steps.length f] 79)):=ag _ _;go_enter func129,ntmps129
 go_wp2_with fail
 refine (lG _ d.name m.name).mono ?_;rintro e w1 ⟨b,i⟩;have j:=h.trans i;clear h i;rcases b.cases with⟨rfl,k⟩|⟨rfl,l⟩
 ·have c:=Kz k;clear k b;go_wp2
  go_ret
  exact⟨Says.no fun n=>n c.o,j⟩
 ·have c:=Kz l;clear l b;go_wp2
  go_ret
  exact⟨Says.yes c.o,j⟩
theorem wD(w:LP)(d:Qq)(a:LM)(b:Nat)(i:d.Fits)(n:Steps w a d.steps):
  Calls prog 131 #[.agg #[.string d.name,.int .i64 d.cost,.slice a d.steps.length b]] w fun e w'=>Says e (mg d)/\K_ w w':=by
 have c:K_ w (w.alloc (.cells #[.string d.name,.int .i64 d.cost,.slice a d.steps.length b] 79)):=ag _ _;go_enter func131,ntmps131
 go_wp2_with fail
 refine (oU _ d.cost a b d.steps i.steps i.each (n.kept c)).mono ?_;rintro e w1 ⟨f,j⟩;have k:=c.trans j;clear c j;rcases f.cases with⟨rfl,l⟩|⟨rfl,m⟩
 ·have h:=Kz l;clear l f;go_wp2
  go_ret
  exact⟨Says.no fun p=>p h.o,k⟩
 ·have h:=Kz m;clear m f;go_wp2
  go_ret
  exact⟨Says.yes h.o,k⟩
theorem BR(w:LP)(a:LM)(D:Nat)(l:List Qq)(E:l.length<=maxLen)(F:∀c∈l,c.Fits)(G:bN w a l):
  Calls prog 161 #[.slice a l.length D,.func (.func 129) #[] #[]] w fun e w'=>(∃r,e= .returned (.int .i64 r)/\FQ l iT r)/\K_ w w':=by
 unfold maxLen at E;go_enter func161,ntmps161
 go_wp2
 go_loopw [8] (fun i wr=>∃k:Nat,k<=l.length/\i= .int .i64 k/\K_ w wr/\zX l iT k) (fun i _=>l.length-(intOf i).toNat)
 case atStart=>exact⟨0,JR _,rfl,K_.refl _,fun j h=>aT h⟩
 case round=>
  obtain⟨k,O,rfl,f,q⟩:=hrel;have s:=Kz q;clear q;by_cases m:k<l.length
  ·obtain⟨b,o,P,rfl,Q,d,H,I,rfl,J⟩:=G.kept f k m;have t:=F (l.getD k Qq.zero) (by simp[List.getD,m]);obtain⟨c,n⟩:=aj (l.getD k Qq.zero);rw[<-n] at d t J;have v:=Kz n;clear n;have x:=d 0 _ rfl;have K:=d 1 _ rfl;have L:=d 2 _ rfl;simp only[La] at x;clear d;go_wp2_with fail
   refine (uD _ c H I t).mono ?_;rintro e w1 ⟨p,y⟩;have A:=f.trans y;clear x K L f y;rcases p.cases with⟨rfl,B⟩|⟨rfl,C⟩
   ·have M:=Kz B;clear B p;go_wp2
    go_ret
    exact⟨⟨k,rfl,Or.inl ⟨k,m,rfl,by rw[<-v.o];exact M.o⟩⟩,A⟩
   ·have N:=Kz C;clear C p;go_wp2
    go_roundw
    case rel=>
     refine⟨k+1,by omega,by go_num,A,fun j h=>?_⟩;by_cases e:j=k
     ·subst e;rw[<-v.o];exact N.o
     ·exact s.o j (by omega)
    case measure=>simp[intOf];omega
  ·go_wp2
   go_ret
   exact⟨⟨-1,rfl,Or.inr ⟨rfl,fun j h=>s.o j (by omega)⟩⟩,f⟩
theorem EJ(w:LP)(a:LM)(E:Nat)(l:List Qq)(F:l.length<=maxLen)(G:∀c∈l,c.Fits)(H:bN w a l):
  Calls prog 161 #[.slice a l.length E,.func (.func 131) #[] #[]] w fun e w'=>(∃r,e= .returned (.int .i64 r)/\FQ l mg r)/\K_ w w':=by
 unfold maxLen at F;go_enter func161,ntmps161
 go_wp2
 go_loopw [8] (fun i wr=>∃k:Nat,k<=l.length/\i= .int .i64 k/\K_ w wr/\zX l mg k) (fun i _=>l.length-(intOf i).toNat)
 case atStart=>exact⟨0,JR _,rfl,K_.refl _,fun j h=>aT h⟩
 case round=>
  obtain⟨k,O,rfl,f,q⟩:=hrel;have s:=Kz q;clear q;by_cases m:k<l.length
  ·obtain⟨b,o,P,rfl,Q,d,I,J,rfl,t⟩:=H.kept f k m;have v:=G (l.getD k Qq.zero) (by simp[List.getD,m]);obtain⟨c,n⟩:=aj (l.getD k Qq.zero);rw[<-n] at d v t;have x:=Kz n;clear n;have y:=d 0 _ rfl;have K:=d 1 _ rfl;have L:=d 2 _ rfl;simp only[La] at y;clear d;go_wp2_with fail
   refine (wD _ c I J v t).mono ?_;rintro e w1 ⟨p,A⟩;have B:=f.trans A;clear y K L f A;rcases p.cases with⟨rfl,C⟩|⟨rfl,D⟩
   ·have M:=Kz C;clear C p;go_wp2
    go_ret
    exact⟨⟨k,rfl,Or.inl ⟨k,m,rfl,by rw[<-x.o];exact M.o⟩⟩,B⟩
   ·have N:=Kz D;clear D p;go_wp2
    go_roundw
    case rel=>
     refine⟨k+1,by omega,by go_num,B,fun j h=>?_⟩;by_cases e:j=k
     ·subst e;rw[<-x.o];exact N.o
     ·exact s.o j (by omega)
    case measure=>simp[intOf];omega
  ·go_wp2
   go_ret
   exact⟨⟨-1,rfl,Or.inr ⟨rfl,fun j h=>s.o j (by omega)⟩⟩,f⟩
theorem wK(w:LP)(a:LM)(f:Nat)(l:List Qq)(n:l.length<=maxLen)(p:∀c∈l,c.Fits)(q:bN w a l):
  Calls prog 128 #[.slice a l.length f,.func (.func 129) #[] #[]] w fun e w'=>Says e (qw l iT)/\K_ w w':=by
 go_enter func128,ntmps128
 go_wp2_with fail
 refine (BR _ a f l n p q).mono ?_;rintro e w1 ⟨⟨r,rfl,h⟩,j⟩;have k:=Kz h;clear h;by_cases m:0<=r
 ·have s:decide (0<=r)=true:=by simpa using m
  go_wp2
  go_ret
  exact⟨Says.yes (by rcases k.o with⟨i,b,_,d⟩ | ⟨rfl,_⟩;exact⟨i,b,d⟩;omega),j⟩
 ·have s:decide (0<=r)=false:=by simpa using m
  go_wp2
  go_ret
  exact⟨Says.no (by rcases k.o with⟨i,b,rfl,d⟩ | ⟨rfl,t⟩;omega;exact fun ⟨i,b,d⟩=>t i b d),j⟩
theorem za(w:LP)(a:LM)(f:Nat)(l:List Qq)(n:l.length<=maxLen)(p:∀c∈l,c.Fits)(q:bN w a l):
  Calls prog 128 #[.slice a l.length f,.func (.func 131) #[] #[]] w fun e w'=>Says e (qw l mg)/\K_ w w':=by
 go_enter func128,ntmps128
 go_wp2_with fail
 refine (EJ _ a f l n p q).mono ?_;rintro e w1 ⟨⟨r,rfl,h⟩,j⟩;have k:=Kz h;clear h;by_cases m:0<=r
 ·have s:decide (0<=r)=true:=by simpa using m
  go_wp2
  go_ret
  exact⟨Says.yes (by rcases k.o with⟨i,b,_,d⟩ | ⟨rfl,_⟩;exact⟨i,b,d⟩;omega),j⟩
 ·have s:decide (0<=r)=false:=by simpa using m
  go_wp2
  go_ret
  exact⟨Says.no (by rcases k.o with⟨i,b,rfl,d⟩ | ⟨rfl,t⟩;omega;exact fun ⟨i,b,d⟩=>t i b d),j⟩
def oN(l:List Qq)(i:Nat):Prop:=Op.bytesLess (l.getD i Qq.zero).name.toList (l.getD (i+1) Qq.zero).name.toList=false
def gZ(l:List Qq):Prop:=∃i,i+1<l.length/\oN l i
def Dr(l:List Qq)(k:Nat):Prop:=∀j,j+1<k->¬oN l j
def bn(l:List Qq)(c:Int):Prop:=
 (60<l.length/\c=1)\/(¬60<l.length/\qw l iT/\c=2)\/(¬60<l.length/\¬qw l iT/\gZ l/\c=3)\/
 (¬60<l.length/\¬qw l iT/\¬gZ l/\qw l mg/\c=4)\/(¬60<l.length/\¬qw l iT/\¬gZ l/\¬qw l mg/\c=0)
theorem bn.unique{l:List Qq}{c f:Int}(j:bn l c)(k:bn l f):c=f:=by
 rcases j with⟨a,rfl⟩ | ⟨a,d,rfl⟩ | ⟨a,d,h,rfl⟩ | ⟨a,d,h,m,rfl⟩ | ⟨a,d,h,m,rfl⟩ <;>
  rcases k with⟨b,rfl⟩ | ⟨b,e,rfl⟩ | ⟨b,e,i,rfl⟩ | ⟨b,e,i,n,rfl⟩ | ⟨b,e,i,n,rfl⟩ <;> first | rfl | contradiction
theorem fu(w:LP)(a:LM)(D:Nat)(l:List Qq)(hl:l.length<=maxLen)(V:∀s∈l,s.Fits)(K:bN w a l):
  Calls prog 46 #[.agg #[.slice a l.length D]] w fun e w'=>(∃c,e= .returned (.int .i64 c)/\bn l c)/\K_ w w':=by
 unfold maxLen at hl;have q:K_ w (w.alloc (.cells #[.slice a l.length D] 25)):=ag _ _;by_cases a5:(60:Int)<l.length
 ·go_enter func46,ntmps46
  go_wp2
  go_ret
  exact⟨⟨1,rfl,Or.inl ⟨by omega,rfl⟩⟩,q⟩
 ·have a6:decide ((60:Int)<l.length)=false:=by simpa using a5
  go_enter func46,ntmps46
  go_wp2
  clear a6;go_loopw [3] (fun i wr=>∃k:Nat,k<=l.length/\i= .int .i64 k/\K_ (w.alloc (.cells #[.slice a l.length D] 25)) wr/\zX l iT k) (fun i _=>l.length-(intOf i).toNat)
  case atStart=>exact⟨0,JR _,rfl,K_.refl _,fun j r=>aT r⟩
  case round=>
   obtain⟨k,W,rfl,d,t⟩:=hrel;have p:=Kz t;clear t;obtain⟨E,F⟩:=d.rules;have x:=d.size;simp only[KR] at x;by_cases m:k<l.length
   ·obtain⟨b,o,X,rfl,Y,f,M,N,rfl,y⟩:=(K.kept q).kept d k m;have C:=V (l.getD k Qq.zero) (by simp[List.getD,m]);obtain⟨L,A⟩:=aj (l.getD k Qq.zero);rw[<-A] at f C;have G:=Kz A;clear A;have v:=f 0 _ rfl;simp only[La] at v;clear f y;go_wp2_with fail
    refine (mr _ L.name C.name).mono ?_;rintro e w1 ⟨B,H⟩;have a7:=Eq.symm H;clear H;subst a7;rcases B.cases with⟨rfl,I⟩|⟨rfl,J⟩
    ·have O:=Kz I;clear I B v;go_wp2
     go_roundw
     case rel=>
      refine⟨k+1,by omega,by go_num,d,fun j r=>?_⟩;by_cases e:j=k
      ·subst e;rw[<-G.o];exact fun h=>h O.o
      ·exact p.o j (by omega)
     case measure=>simp[intOf];omega
    ·have P:=Kz J;clear J B v;go_wp2
     go_ret
     exact⟨⟨2,rfl,Or.inr (Or.inl ⟨by omega,⟨k,m,by rw[<-G.o];exact P.o⟩,rfl⟩)⟩,q.trans d⟩
   ·have Q:Hid (¬qw l iT):=fun ⟨i,Z,h⟩=>p.o i (by omega) h
    clear p;go_wp2
    clear E F x;go_loopw [4] (fun i R=>∃n:Nat,1<=n/\n<=l.length+1/\i= .int .i64 n/\K_ (w.alloc (.cells #[.slice a l.length D] 25)) R/\Dr l n) (fun i _=>l.length+2-(intOf i).toNat)
    case atStart=>exact⟨1,by omega,by omega,rfl,d,fun j r=>Lv r (by omega)⟩
    case round=>
     clear d W m;obtain⟨n,a9,b0,rfl,d,t⟩:=hrel;have p:=Kz t;clear t;obtain⟨E,F⟩:=d.rules;have x:=d.size;simp only[KR] at x;by_cases m:n<l.length
     ·obtain⟨b,o,X,rfl,Y,f,M,N,rfl,y⟩:=(K.kept q).kept d (n-1) (by omega);obtain⟨b',o',b1,e',b2,S,ba,da,rfl,a8⟩:=(K.kept q).kept d n m;simp only[KT,LG,and_true] at e';obtain⟨rfl,rfl⟩:=e';obtain⟨a0,T⟩:=aj ((l.getD (n-1) Qq.zero));obtain⟨a1,U⟩:=aj ((l.getD n Qq.zero));rw[<-T] at f;rw[<-U] at S;have HX:Hid (l.getD (n-1) Qq.zero=a0):=T.symm;have a2:Hid (l.getD (n-1+1) Qq.zero=a1):=by rw[U,show n-1+1=n by omega];exact rfl
      clear T U y a8;have v:=f 0 _ rfl;have d0:=S 0 _ rfl;simp only[La] at v d0;clear f S;have i0:(0:Int)<=(n:Int)-1:=by omega
      have i1:(n:Int)-1<(l.length:Int):=by omega
      cases a3:Op.bytesLess a0.name.toList a1.name.toList
      ·go_wp2
       go_region
       all_goals
        go_wp2
        go_ret
        exact⟨⟨3,rfl,Or.inr (Or.inr (Or.inl ⟨by omega,Q.o,⟨n-1,by omega,by unfold oN;rw[HX.o,a2.o];exact a3⟩,rfl⟩))⟩,q.trans (by repeat (first | apply K_.drew | exact d))⟩
      ·go_wp2
       go_region
       all_goals
        go_wp2
        go_roundw
        case rel=>
         refine⟨n+1,by omega,by omega,by go_num,by repeat (first | apply K_.drew | exact d),fun j r=>?_⟩;by_cases e:j=n-1
         ·subst e;unfold oN;rw[HX.o,a2.o,a3];simp
         ·exact p.o j (by omega)
        case measure=>simp[intOf];omega
     ·have HC:Hid (¬gZ l):=fun ⟨i,Z,h⟩=>p.o i (by omega) h
      clear p;go_wp2
      clear E F x;go_loopw [5] (fun i R=>∃k:Nat,k<=l.length/\i= .int .i64 k/\K_ (w.alloc (.cells #[.slice a l.length D] 25)) R/\zX l mg k) (fun i _=>l.length-(intOf i).toNat)
      case atStart=>exact⟨0,JR _,rfl,d,fun j r=>aT r⟩
      case round=>
       clear d m;obtain⟨k,W,rfl,d,t⟩:=hrel;have p:=Kz t;clear t;obtain⟨E,F⟩:=d.rules;have x:=d.size;simp only[KR] at x;by_cases m:k<l.length
       ·obtain⟨b,o,X,rfl,Y,f,M,N,rfl,y⟩:=(K.kept q).kept d k m;have C:=V (l.getD k Qq.zero) (by simp[List.getD,m]);obtain⟨L,A⟩:=aj (l.getD k Qq.zero);rw[<-A] at f C y;have G:=Kz A;clear A;have v:=f 0 _ rfl;have c1:=f 1 _ rfl;have c2:=f 2 _ rfl;simp only[La] at v;clear f;go_wp2_with fail
        refine (eZ _ L.cost M N L.steps C.steps C.each y).mono ?_;rintro e w1 ⟨B,H⟩;have a4:=d.trans H;clear d H v c1 c2 y E F;rcases B.cases with⟨rfl,I⟩|⟨rfl,J⟩
        ·have O:=Kz I;clear I B;go_wp2
         go_roundw
         case rel=>
          refine⟨k+1,by omega,by go_num,a4,fun j r=>?_⟩;by_cases e:j=k
          ·subst e;rw[<-G.o];exact fun h=>h O.o
          ·exact p.o j (by omega)
         case measure=>simp[intOf];omega
        ·have P:=Kz J;clear J B;go_wp2
         go_ret
         exact⟨⟨4,rfl,Or.inr (Or.inr (Or.inr (Or.inl ⟨by omega,Q.o,HC.o,⟨k,m,by rw[<-G.o];exact P.o⟩,rfl⟩)))⟩,q.trans a4⟩
       ·go_wp2
        go_ret
        exact⟨⟨0,rfl,Or.inr (Or.inr (Or.inr (Or.inr ⟨by omega,Q.o,HC.o,fun ⟨i,Z,h⟩=>p.o i (by omega) h,rfl⟩)))⟩,q.trans d⟩
def Dl :Prop:=∀(w:LP) (a:LM) (cap:Nat) (l:List Qq),l.length<=maxLen->bN w a l->
 Calls prog 130 #[.agg #[.slice a l.length cap,.func (.func 133) #[] #[]]] w fun e w'=>Says e (¬gZ l)/\K_ w w'
theorem Tryz.Dc :(prog.info? 109).map (·.size)=some 2:=by kernel_rfl
theorem Ca(w:LP)(c:Array LQ)(t:TypeId):(w.alloc (.cells c t)).rangeAt w.heap.size 0 c.toList:=fun j v a=>by
 rw[KH,World.cell?_alloc_mark];simpa using a
theorem vU(w:LP)(a:LM)(n b:Nat):
  Calls prog 100 #[.agg #[.slice a n b]] w fun e w'=>e= .returned (.agg #[.slice a n b,.func (.func 133) #[] #[]])/\K_ w w':=by
 go_enter func100,ntmps100
 go_wp2
 have c:=Ca (w.alloc (.cells #[.slice a n b] 25)) #[.slice a n b,.func (.func 133) #[] #[]] 109;rw[KR] at c;exact X_ [.slice a n b,.func (.func 133) #[] #[]] _ results100 rfl c underlying109 rfl Tryz.Dc rfl ⟨rfl,(ag _ _).alloc _⟩
theorem rZ(D:Hid Dl)(w:LP)(a:LM)(d:Nat)(l:List Qq)(j:l.length<=maxLen)(A:∀s∈l,s.Fits)(r:bN w a l):
  Calls prog 98 #[.agg #[.slice a l.length d]] w fun e w'=>(∃c,e= .returned (.int .i64 c)/\bn l c)/\K_ w w':=by
 have E:=j;unfold maxLen at E;have t:K_ w (w.alloc (.cells #[.slice a l.length d] 25)):=ag _ _;by_cases I:(60:Int)<l.length
 ·go_enter func98,ntmps98
  go_wp2
  go_ret
  exact⟨⟨1,rfl,Or.inl ⟨by omega,rfl⟩⟩,t⟩
 ·go_enter func98,ntmps98
  go_wp2_with fail
  refine (wK _ a d l j A (r.kept t)).mono ?_;rintro e w1 ⟨b,i⟩;have k:=t.trans i;rcases b.cases with⟨rfl,f⟩|⟨rfl,h⟩
  ·have F:=Kz f;clear f b;go_wp2
   go_ret
   exact⟨⟨2,rfl,Or.inr (Or.inl ⟨by omega,F.o,rfl⟩)⟩,k⟩
  ·have v:=Kz h;clear h b;have B:w1.cell? ⟨w.heap.size,0,none⟩=some (.slice a l.length d):=by rw[i.cell (by simp)];simp
   go_wp2_with fail
   refine (vU _ a l.length d).mono ?_;rintro e w2 ⟨rfl,m⟩;have n:=k.trans m;go_wp2_with fail
   refine (a_ D _ a d l j (r.kept n)).mono ?_;rintro e G ⟨b,p⟩;have x:=n.trans p;rcases b.cases with⟨rfl,f⟩|⟨rfl,h⟩
   ·have q:=Kz f;clear f b;have J:G.cell? ⟨w.heap.size,0,none⟩=some (.slice a l.length d):=by rw[((i.trans m).trans p).cell (by simp)];simp
    clear B i m p k n;go_wp2_with fail
    refine (za _ a d l j A (r.kept x)).mono ?_;rintro e K ⟨b,H⟩;have C:=x.trans H;rcases b.cases with⟨rfl,f⟩|⟨rfl,h⟩
    ·have y:=Kz f;clear f b;go_wp2
     go_ret
     exact⟨⟨4,rfl,Or.inr (Or.inr (Or.inr (Or.inl ⟨by omega,v.o,q.o,y.o,rfl⟩)))⟩,C⟩
    ·have y:=Kz h;clear h b;go_wp2
     go_ret
     exact⟨⟨0,rfl,Or.inr (Or.inr (Or.inr (Or.inr ⟨by omega,v.o,q.o,y.o,rfl⟩)))⟩,C⟩
   ·have q:=Kz h;clear h b i m p k n B;go_wp2
    go_ret
    exact⟨⟨3,rfl,Or.inr (Or.inr (Or.inl ⟨by omega,v.o,Classical.not_not.1 q.o,rfl⟩))⟩,x⟩
theorem mK(w:LP)(x y z:LQ)(s:LK)(a:x= .string s):
  Calls prog 133 #[.agg #[x,y,z]] w fun e w'=>e= .returned (.string s)/\K_ w w':=by
 subst a;go_enter func133,ntmps133
 go_wp2
 go_ret
 exact⟨rfl,ag _ _⟩
theorem EK{w a:LP}{x y:LQ}{t:TypeId}(K:K_ (w.alloc (.cells #[x,y] t)) a):a.cell? ⟨w.heap.size,0,none⟩=some x/\a.cell? ⟨w.heap.size,1,none⟩=some y:=by
 constructor
 ·rw[K.cell (by simp)];simp
 ·rw[K.cell (by simp)];simp
theorem sQ{m:Int}(a: -9223372036854775808<=m)(h2:m<=9223372036854775807):IntKind.i64.wrap m=m:=by
 simp only[IntKind.wrap,IntKind.signed,IntKind.bits]
 first | omega | (simp;omega)
theorem wB(w:LP)(a:LM)(d:Nat)(l:List Qq)(S:l.length<=maxLen)(E:bN w a l):
  Calls prog 130 #[.agg #[.slice a l.length d,.func (.func 133) #[] #[]]] w fun e w'=>Says e (¬gZ l)/\K_ w w':=by
 unfold maxLen at S;have p:K_ w (w.alloc (.cells #[.slice a l.length d,.func (.func 133) #[] #[]] 109)):=ag _ _;go_enter func130,ntmps130
 go_wp2
 go_loopw [3] (fun j wr=>∃n:Nat,1<=n/\n<=l.length+1/\j= .int .i64 n/\K_ (w.alloc (.cells #[.slice a l.length d,.func (.func 133) #[] #[]] 109)) wr/\Dr l n) (fun j _=>l.length+2-(intOf j).toNat)
 case atStart=>exact⟨1,by omega,by omega,rfl,K_.refl _,fun q F=>Lv F (by omega)⟩
 case round=>
  obtain⟨n,a0,a1,rfl,f,G⟩:=hrel;have H:=Kz G;clear G;have T:=f.size;simp only[KR] at T;have I:w.heap.size<wr.heap.size:=by omega
  obtain⟨U,V⟩:=EK f;by_cases W:n<l.length
  ·have J:K_ w wr:=p.trans f;obtain⟨b,o,cs,rfl,i,k,r,s,rfl,X⟩:=E.kept J (n-1) (by omega);obtain⟨b',o',a2,K,a3,m,t,v,rfl,Y⟩:=E.kept J n W;simp only[KT,LG,and_true] at K;obtain⟨rfl,rfl⟩:=K;obtain⟨x,A⟩:=aj ((l.getD (n-1) Qq.zero));obtain⟨y,B⟩:=aj ((l.getD n Qq.zero));rw[<-A] at k;rw[<-B] at m;have L:Hid (l.getD (n-1) Qq.zero=x):=A.symm;have M:Hid (l.getD (n-1+1) Qq.zero=y):=by rw[B,show n-1+1=n by omega];exact rfl
   clear A B X Y;have N:=k 0 _ rfl;have Z:=k 1 _ rfl;have c2:=k 2 _ rfl;have O:=m 0 _ rfl;have d1:=m 1 _ rfl;have d2:=m 2 _ rfl;simp only[La] at N O;clear k m;have i0:(0:Int)<=(n:Int)-1:=by omega
   have i1:(n:Int)-1<(l.length:Int):=by omega
   have i2:(n:Int)<(l.length:Int):=by omega
   have i5:(1:Int)<=(n:Int):=by omega
   have i6:(n:Int)<=(l.length:Int):=by omega
   have i7:n<=l.length:=by omega
   have i3:((n:Int)-1).toNat=n-1:=by omega
   have i4:IntKind.i64.wrap ((n:Int)-1)= (n:Int)-1:=sQ (by omega) (by omega);have P:∀w',K_ wr w'->(fun w'=>w'.cell? ⟨b,o+ (n-1)*3,none⟩=some (.string x.name)/\w'.cell? ⟨b,o+ (n-1)*3+1,none⟩=some (.int .i64 x.cost)/\w'.cell? ⟨b,o+ (n-1)*3+2,none⟩=some (.slice r x.steps.length s)/\w'.cell? ⟨b,o+n*3,none⟩=some (.string y.name)/\w'.cell? ⟨b,o+n*3+1,none⟩=some (.int .i64 y.cost)/\w'.cell? ⟨b,o+n*3+2,none⟩=some (.slice t y.steps.length v)/\w'.cell? ⟨w.heap.size,0,none⟩=some (.slice (some ⟨b,o,none⟩) l.length d)/\w'.cell? ⟨w.heap.size,1,none⟩=some (.func (.func 133) #[] #[])) w':=fun w' c=>⟨(K_.cell c i).trans N,(K_.cell c i).trans Z,(K_.cell c i).trans c2,(K_.cell c i).trans O,(K_.cell c i).trans d1,(K_.cell c i).trans d2,(K_.cell c I).trans U,(K_.cell c I).trans V⟩
   have Q:=Kz P;clear P;cases R:Op.bytesLess x.name.toList y.name.toList
   ·go_wp2
    go_region_held (fun w'=>w'.cell? ⟨b,o+ (n-1)*3,none⟩=some (.string x.name)/\w'.cell? ⟨b,o+ (n-1)*3+1,none⟩=some (.int .i64 x.cost)/\w'.cell? ⟨b,o+ (n-1)*3+2,none⟩=some (.slice r x.steps.length s)/\w'.cell? ⟨b,o+n*3,none⟩=some (.string y.name)/\w'.cell? ⟨b,o+n*3+1,none⟩=some (.int .i64 y.cost)/\w'.cell? ⟨b,o+n*3+2,none⟩=some (.slice t y.steps.length v)/\w'.cell? ⟨w.heap.size,0,none⟩=some (.slice (some ⟨b,o,none⟩) l.length d)/\w'.cell? ⟨w.heap.size,1,none⟩=some (.func (.func 133) #[] #[])) (exact a_ Q _ (by repeat (first | apply K_.drew | exact K_.refl _ | assumption))) ((go_at_call 133;refine (mK _ _ _ _ _ rfl).mono ?_;rintro e w1 ⟨rfl,C⟩;have c:K_ wr w1:=K_.trans (by repeat (first | apply K_.drew | exact K_.refl _ | assumption)) C))
    all_goals
     have D:=f.trans c;go_wp2
     go_ret
     exact⟨Says.no fun h=>h ⟨n-1,by omega,by unfold oN;rw[L.o,M.o];exact R⟩,p.trans (by repeat (first | apply K_.drew | exact D))⟩
   ·go_wp2
    go_region_held (fun w'=>w'.cell? ⟨b,o+ (n-1)*3,none⟩=some (.string x.name)/\w'.cell? ⟨b,o+ (n-1)*3+1,none⟩=some (.int .i64 x.cost)/\w'.cell? ⟨b,o+ (n-1)*3+2,none⟩=some (.slice r x.steps.length s)/\w'.cell? ⟨b,o+n*3,none⟩=some (.string y.name)/\w'.cell? ⟨b,o+n*3+1,none⟩=some (.int .i64 y.cost)/\w'.cell? ⟨b,o+n*3+2,none⟩=some (.slice t y.steps.length v)/\w'.cell? ⟨w.heap.size,0,none⟩=some (.slice (some ⟨b,o,none⟩) l.length d)/\w'.cell? ⟨w.heap.size,1,none⟩=some (.func (.func 133) #[] #[])) (exact a_ Q _ (by repeat (first | apply K_.drew | exact K_.refl _ | assumption))) ((go_at_call 133;refine (mK _ _ _ _ _ rfl).mono ?_;rintro e w1 ⟨rfl,C⟩;have c:K_ wr w1:=K_.trans (by repeat (first | apply K_.drew | exact K_.refl _ | assumption)) C))
    all_goals
     have D:=f.trans c;go_wp2
     go_roundw
     case rel=>
      refine⟨n+1,by omega,by omega,by go_num,by repeat (first | apply K_.drew | exact D),fun q F=>?_⟩;by_cases e:q=n-1
      ·subst e;unfold oN;rw[L.o,M.o,R];simp
      ·exact H.o q (by omega)
     case measure=>simp[intOf];omega
  ·go_wp2
   go_ret
   exact⟨Says.yes fun ⟨j,hi,h⟩=>H.o j (by omega) h,p.trans f⟩
theorem Ht :Dl:=fun w a c l e f=>wB w a c l e f
def jM(x y:List UInt8):Int:=if Op.bytesLess x y=true then -1 else if x=y then 0 else 1
theorem om(w:LP)(x y:LK):Calls prog 138 #[.string x,.string y] w fun e w'=>e= .returned (.int .i64 (jM x.toList y.toList))/\w'=w:=by
 cases a:Op.bytesLess x.toList y.toList
 ·cases b:(x.toList == y.toList)
  ·go_enter func138,ntmps138
   go_wp2
   go_ret
   exact⟨yQ (by unfold jM;rw[Lu (by rw[a];simp),Lu (by simpa using b)]),rfl⟩
  ·go_enter func138,ntmps138
   go_wp2
   go_ret
   exact⟨yQ (by unfold jM;rw[Lu (by rw[a];simp),Lt (by simpa using b)]),rfl⟩
 ·go_enter func138,ntmps138
  go_wp2
  go_ret
  exact⟨yQ (by unfold jM;rw[Lt a]),rfl⟩
theorem sM(w:LP)(g:Nat)(d:Qq)(a:LM)(f:Nat)(b:LK)(i:g<w.heap.size)(j:w.cell? ⟨g,1,none⟩=some (.func (.func 133) #[] #[])):
  Calls prog 164 #[.agg #[.string d.name,.int .i64 d.cost,.slice a d.steps.length f],.string b,.pointer (some ⟨g,0,none⟩)] w fun e w'=>e= .returned (.int .i64 (jM d.name.toList b.toList))/\K_ w w':=by
 go_enter func164,ntmps164
 go_wp2_with fail
 refine (mK _ _ _ _ d.name rfl).mono ?_;rintro e w1 ⟨rfl,c⟩;have h:K_ w w1:=K_.trans (by repeat (first | apply K_.alloc | exact K_.refl _)) c;clear c;go_wp2_with fail
 refine (om _ d.name b).mono ?_;rintro e w2 ⟨rfl,rfl⟩;go_wp2
 go_ret
 exact⟨rfl,h⟩
theorem uT{x y:List UInt8}:jM x y<0↔Op.bytesLess x y=true:=by
 unfold jM;by_cases h:Op.bytesLess x y=true
 ·rw[Lt h];exact⟨fun _=>h,fun _=>by omega⟩
 ·rw[Lu h];refine⟨fun g=>?_,fun g=>Lv g h⟩
  split at g <;> omega
theorem rY{x y:List UInt8}:jM x y=0↔x=y:=by
 unfold jM;by_cases h:Op.bytesLess x y=true
 ·rw[Lt h];refine⟨fun g=>by omega,fun g=>?_⟩;rw[g,dG] at h;cases h
 ·rw[Lu h];by_cases e:x=y
  ·rw[Lt e];exact⟨fun _=>e,fun _=>rfl⟩
  ·rw[Lu e];exact⟨fun g=>by omega,fun g=>Lv g e⟩
def Found(l:List Qq)(key:List UInt8)(e:Ending):Prop:=∃(p:Nat) (f:Bool),e= .returned (.tuple #[.int .i64 p,.bool f])/\Place l key p/\(f=true↔p<l.length/\nameAt l p=key)
theorem Found.mk{l:List Qq}{a:List UInt8}{e:Ending}(p:Nat)(f:Bool)(b:e= .returned (.tuple #[.int .i64 p,.bool f]))(h2:Place l a p)(c:f=true↔p<l.length/\nameAt l p=a):Found l a e:=⟨p,f,b,h2,c⟩
theorem Co(w:LP)(g:Nat)(a:LM)(Z:Nat)(l:List Qq)(c:LK)(hl:l.length<=1048576)(O:fE l)(y:g<w.heap.size)(P:w.cell? ⟨g,1,none⟩=some (.func (.func 133) #[] #[]))(Q:bN w a l):
  Calls prog 163 #[.slice a l.length Z,.string c,.func (.func 164) #[] #[.pointer (some ⟨g,0,none⟩)]] w
   fun e w'=>Found l c.toList e/\K_ w w':=by
 have R:=Kz O;clear O;go_enter func163,ntmps163
 go_wp2
 go_loopw [9,10] (fun C D wr=>∃i j:Nat,C= .int .i64 i/\D= .int .i64 j/\i<=j/\j<=l.length/\(∀t,t<i->Op.bytesLess (nameAt l t) c.toList=true)/\(∀t,j<=t->t<l.length->Op.bytesLess (nameAt l t) c.toList=false)/\K_ w wr) (fun C D _=>(intOf D).toNat-(intOf C).toNat)
 case atStart=>exact⟨0,l.length,rfl,rfl,JR _,JP _,fun t S=>aT S,fun t a0 T=>by omega,K_.refl _⟩
 case round=>
  obtain⟨i,j,rfl,rfl,a5,U,p,q,d⟩:=hrel;have r:=Kz (And.intro p q);clear p q;by_cases a6:(i:Int)<j
  ·obtain⟨h,V⟩:∃h:Nat,h= (i+j) / 2:=⟨_,rfl⟩;have W:h<l.length:=by omega
   have a1:i<=h:=by omega
   have a7:h<j:=by omega
   obtain⟨b,o,cs,rfl,hb,f,E,F,rfl,G⟩:=Q.kept d h W;obtain⟨k,m⟩:=aj (l.getD h Qq.zero);rw[<-m] at f;have H:=Kz m;clear m G;have s:=f 0 _ rfl;have I:=f 1 _ rfl;have J:=f 2 _ rfl;simp only[La] at s;clear f;have a8:((i:Int)+ (j:Int)) / 2= (h:Int):=by omega
   have HH:=Kz V;clear V;have K:g<wr.heap.size:=JQ y d.size;have L:wr.cell? ⟨g,1,none⟩=some (.func (.func 133) #[] #[]):=by rw[d.cell y];exact P
   go_wp2_with fail
   refine (sM _ g k E F c K L).mono ?_;rintro e w1 ⟨rfl,v⟩;have x:nameAt l h=k.name.toList:=by unfold nameAt;rw[<-H.o]
   have A:Hid (jM k.name.toList c.toList<0↔Op.bytesLess (nameAt l h) c.toList=true):=by rw[x];exact uT
   clear s I J x;generalize jM k.name.toList c.toList=X at *;have B:=d.trans v;clear d v;by_cases a2:X<0
   ·go_wp2
    go_roundw
    case rel=>
     obtain⟨p,q⟩:=r.o;refine⟨h+1,j,by go_num,rfl,by omega,U,fun t S=>?_,q,B⟩;have n:=A.o.1 a2;by_cases e:t=h
     ·subst e;exact n
     ·exact dX _ _ _ (R.o t h (by omega) W) n
    case measure=>simp[intOf];omega
   ·go_wp2
    go_roundw
    case rel=>
     obtain⟨p,q⟩:=r.o;refine⟨i,h,rfl,by go_num,a1,by omega,p,fun t a0 T=>?_,B⟩;have n:Op.bytesLess (nameAt l h) c.toList=false:=by
      cases M:Op.bytesLess (nameAt l h) c.toList
      ·rfl
      ·have:=A.o.2 M;omega
     by_cases e:t=h
     ·subst e;exact n
     ·cases M:Op.bytesLess (nameAt l t) c.toList
      ·rfl
      ·rw[dX _ _ _ (R.o h t (by omega) T) M] at n;cases n
    case measure=>simp[intOf];omega
  ·have a3:i=j:=by omega
   subst a3;have Y:Hid (Place l c.toList i):=⟨U,r.o.1,r.o.2⟩;clear r;by_cases N:i<l.length
   ·obtain⟨b,o,cs,rfl,hb,f,E,F,rfl,G⟩:=Q.kept d i N;obtain⟨k,m⟩:=aj (l.getD i Qq.zero);rw[<-m] at f;have H:=Kz m;clear m G;have s:=f 0 _ rfl;have I:=f 1 _ rfl;have J:=f 2 _ rfl;simp only[La] at s;clear f;have K:g<wr.heap.size:=JQ y d.size;have L:wr.cell? ⟨g,1,none⟩=some (.func (.func 133) #[] #[]):=by rw[d.cell y];exact P
    have a4:(i:Int)<l.length:=by omega
    go_wp2_with fail
    refine (sM _ g k E F c K L).mono ?_;rintro e w1 ⟨rfl,v⟩;have x:nameAt l i=k.name.toList:=by unfold nameAt;rw[<-H.o]
    have A:Hid (jM k.name.toList c.toList=0↔nameAt l i=c.toList):=by rw[x];exact rY
    clear s I J x;generalize jM k.name.toList c.toList=X at *;have B:=d.trans v;clear d v;go_wp2
    go_ret2
    refine⟨Found.mk i _ rfl Y.o ?_,B⟩;rw[<-A.o];simp[N]
   ·have a4:¬(i:Int)<l.length:=by omega
    go_wp2
    go_ret2
    exact⟨Found.mk i false rfl Y.o (by simp;intro h;exact Lv h N),d⟩
theorem FD(w:LP)(a:LM)(b:Nat)(l:List Qq)(c:LK)(i:l.length<=1048576)(j:fE l)(k:bN w a l):
  Calls prog 134 #[.agg #[.slice a l.length b,.func (.func 133) #[] #[]],.string c] w
   fun e w'=>Found l c.toList e/\K_ w w':=by
 have d:K_ w (w.alloc (.cells #[.slice a l.length b,.func (.func 133) #[] #[]] 109)):=ag _ _;go_enter func134,ntmps134
 go_wp2_with fail
 refine (Co _ w.heap.size a b l c i j (by simp) (by simp) (k.kept d)).mono ?_;rintro e w1 ⟨m,n⟩;obtain⟨p,q,rfl,f,h⟩:=m;have⟨r,s⟩:=aH f h;clear f h;go_wp2
 go_ret2
 exact⟨Found.mk p q rfl r.o s.o,d.trans n⟩
theorem yG{w a:LP}{x:LQ}{t:TypeId}(K:K_ (w.alloc (.cells #[x] t)) a):a.cell? ⟨w.heap.size,0,none⟩=some x:=by
 rw[K.cell (by simp)];simp
