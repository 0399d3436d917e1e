import Derived.Test.YtgnkgfjmbmcfcaaGreatDoorKWGo5
import Derived.Test.YtgnkgfjmbmcfcaaGreatDoorKVCirc
import Derived.Lib.AppendZeros
set_option maxRecDepth 100000
set_option maxHeartbeats 25600000
namespace Go.Proofs.YtgnkgfjmbmcfcaaGreatDoor
open Go.RowKit Go.Proofs.Tryz
theorem Da(w:Qy)(cost j:Int)(a d:Qx)(cap M:Nat)(l:List Xq)(ans:List Xz)(C:l.length<=maxLen)(D:∀s∈l,s.Fits)(E:Steps w a l)
  (N:ans.length<=maxLen) (_has:∀c∈ans,c.text.size<=maxLen) (_hD:eP w d ans)
  (O:Hid (¬(oo cost l j/\ans.length= (ll l j).asks.length))):
  Calls prog 169 #[.agg #[.int .i64 cost,.slice a l.length cap],.int .i64 j,.slice d ans.length M] w fun e w'=>(∃g,e= .returned (.agg g.cells.toArray)/\mG cost l j ans g)/\K_ w w':=by
 have P:=C;have Q:=N;unfold maxLen at P Q;have t:K_ w ((w.alloc (.cells #[.int .i64 cost,.slice a l.length cap] 88)).alloc (.cells #[.int .i64 0,.bool false,.int .i64 0,.string ⟨#[]⟩] 244)):=(ak _ _).alloc _;go_enter func169,ntmps169
 go_wp2_with fail
 refine (il _ cost a cap l C D (E.kept t)).mono ?_;rintro e k ⟨A,p⟩;have q:=t.trans p;have F:Row k (w.heap.size+1) 4:=Row.kept (by have:=Row.made (w.alloc (.cells #[.int .i64 cost,.slice a l.length cap] 88)) #[.int .i64 0,.bool false,.int .i64 0,.string ⟨#[]⟩] 244;simpa using this) p;have r:=Kz F;clear F;obtain⟨a0,a1⟩:=p.rules;have R:=p.size;simp only[PL] at R;have x0:w.heap.size<k.heap.size:=by omega
 have x1:w.heap.size+1<k.heap.size:=by omega
 rcases A.cases with⟨rfl,G⟩|⟨rfl,H⟩
 ·have v:=Kz G;clear G A t p;by_cases S:0<=j
  ·cases I:decide (j<=(l.length:Int)-1)
   ·have T:(l.length:Int)-1<j:=by simpa using I
    go_wp2
    have i:=OY k (w.heap.size+1) 0 bW.none.cells (r.o.there (o:=0) (m:=4) (OU _));exact Zx bW.none.cells _ results169 rfl i underlying244 rfl Tryz.dL rfl ⟨⟨_,rfl,Or.inl ⟨fun h=>(by have:=h.2.1;omega),rfl⟩⟩,K_.setCells (g:=w.heap.size+1) (by omega) bW.none.cells 0 q⟩
   ·have T:j<=(l.length:Int)-1:=by simpa using I
    obtain⟨n,rfl⟩:=Int.eq_ofNat_of_zero_le S;have B:n<l.length:=by omega
    obtain⟨b,o,cs,rfl,hb,f,aa,ca,ac,cc,rfl,U,V,W⟩:=E.kept q n B;have X:=D (l.getD n Xq.zero) (by simp[List.getD,B]);obtain⟨s,x⟩:=ag (l.getD n Xq.zero);rw[<-x] at f X U V W;have y:Hid (ll l n=s):=by rw[x];show Hid (l.getD (n:Int).toNat Xq.zero=_);rw[Int.toNat_natCast];exact rfl
    have a2:Hid (lC s l.length):=by rw[x];exact v.o.2.2 n B
    clear x;have Y:=f 0 _ rfl;have c1:=f 1 _ rfl;have c2:=f 2 _ rfl;have c3:=f 3 _ rfl;have c4:=f 4 _ rfl;have J:=f 5 _ rfl;have c6:=f 6 _ rfl;have c7:=f 7 _ rfl;simp only[PR] at Y;clear f;cases z:s.fin
    ·rw[z] at J;have K:Hid (oo cost l n):=⟨v.o,⟨by omega,by omega⟩,by rw[y.o];exact z⟩;have L:ans.length≠s.asks.length:=fun h=>O.out ⟨K.o,by rw[y.o];exact h⟩
     have a3:((ans.length:Int) != (s.asks.length:Int))=true:=by simp;omega
     have Z:=Kz L;clear L;go_wp2
     have i:=OY k (w.heap.size+1) 0 bW.none.cells (r.o.there (o:=0) (m:=4) (OU _));exact Zx bW.none.cells _ results169 rfl i underlying244 rfl Tryz.dL rfl ⟨⟨_,rfl,Or.inr ⟨K.o,Or.inl ⟨fun h=>Z.o (by have:=h.1;rw[y.o] at this;exact this),rfl⟩⟩⟩,K_.setCells (g:=w.heap.size+1) (by omega) bW.none.cells 0 q⟩
    ·rw[z] at J;go_wp2
     have i:=OY k (w.heap.size+1) 0 bW.none.cells (r.o.there (o:=0) (m:=4) (OU _));exact Zx bW.none.cells _ results169 rfl i underlying244 rfl Tryz.dL rfl ⟨⟨_,rfl,Or.inl ⟨fun h=>(by have:=h.2.2;rw[y.o,z] at this;cases this),rfl⟩⟩,K_.setCells (g:=w.heap.size+1) (by omega) bW.none.cells 0 q⟩
  ·skip
   go_wp2
   have i:=OY k (w.heap.size+1) 0 bW.none.cells (r.o.there (o:=0) (m:=4) (OU _));exact Zx bW.none.cells _ results169 rfl i underlying244 rfl Tryz.dL rfl ⟨⟨_,rfl,Or.inl ⟨fun h=>(by have:=h.2.1;omega),rfl⟩⟩,K_.setCells (g:=w.heap.size+1) (by omega) bW.none.cells 0 q⟩
 ·have v:=Kz H;clear H A t p;go_wp2
  have i:=OY k (w.heap.size+1) 0 bW.none.cells (r.o.there (o:=0) (m:=4) (OU _));exact Zx bW.none.cells _ results169 rfl i underlying244 rfl Tryz.dL rfl ⟨⟨_,rfl,Or.inl ⟨fun h=>v.o h.1,rfl⟩⟩,K_.setCells (g:=w.heap.size+1) (by omega) bW.none.cells 0 q⟩
def Dr(l:List Qz)(p:Qz->Prop)(k:Nat):Prop:=∀j,j<k->¬p (l.getD j Qz.zero)
def sN(l:List Qz)(p:Qz->Prop):Prop:=∃i,i<l.length/\p (l.getD i Qz.zero)
def Kg(l:List Qz)(p:Qz->Prop)(r:Int):Prop:=
 (∃i,i<l.length/\r= (i:Int)/\p (l.getD i Qz.zero))\/(r= -1/\Dr l p l.length)
def jL(d:Qz):Prop:=¬oq d.name
def nL(d:Qz):Prop:=¬lu ⟨d.cost,d.steps⟩
theorem x_(w:Qy)(d:Qz)(a:Qx)(cap:Nat)(k:d.Fits):
  Calls prog 106 #[.agg #[.string d.name,.int .i64 d.cost,.slice a d.steps.length cap]] w fun e w'=>Says e (jL d)/\K_ w w':=by
 have f:K_ w (w.alloc (.cells #[.string d.name,.int .i64 d.cost,.slice a d.steps.length cap] 90)):=ak _ _;go_enter func106,ntmps106
 go_wp2_with fail
 refine (mP _ d.name k.name).mono ?_;rintro e m ⟨b,g⟩;have h:=f.trans g;clear f g;rcases b.cases with⟨rfl,i⟩|⟨rfl,j⟩
 ·have c:=Kz i;clear i b;go_wp2
  go_ret
  exact⟨Says.no fun l=>l c.o,h⟩
 ·have c:=Kz j;clear j b;go_wp2
  go_ret
  exact⟨Says.yes c.o,h⟩
theorem zV(w:Qy)(d:Qz)(a:Qx)(cap:Nat)(g:d.Fits)(l:Steps w a d.steps):
  Calls prog 108 #[.agg #[.string d.name,.int .i64 d.cost,.slice a d.steps.length cap]] w fun e w'=>Says e (nL d)/\K_ w w':=by
 have b:K_ w (w.alloc (.cells #[.string d.name,.int .i64 d.cost,.slice a d.steps.length cap] 90)):=ak _ _;go_enter func108,ntmps108
 go_wp2_with fail
 refine (qD _ d.cost a cap d.steps g.steps g.each (l.kept b)).mono ?_;rintro e n ⟨c,h⟩;have i:=b.trans h;clear b h;rcases c.cases with⟨rfl,j⟩|⟨rfl,k⟩
 ·have f:=Kz j;clear j c;go_wp2
  go_ret
  exact⟨Says.no fun m=>m f.o,i⟩
 ·have f:=Kz k;clear k c;go_wp2
  go_ret
  exact⟨Says.yes f.o,i⟩
theorem EY(w:Qy)(a:Qx)(cap:Nat)(l:List Qz)(B:l.length<=maxLen)(C:∀c∈l,c.Fits)(D:bJ w a l):
  Calls prog 143 #[.slice a l.length cap,.func (.func 106) #[] #[]] w fun e w'=>(∃r,e= .returned (.int .i64 r)/\Kg l jL r)/\K_ w w':=by
 unfold maxLen at B;go_enter func143,ntmps143
 go_wp2
 go_loopw [8] (fun i wr=>∃k:Nat,k<=l.length/\i= .int .i64 k/\K_ w wr/\Dr l jL k) (fun i _=>l.length-(intOf i).toNat)
 case atStart=>exact⟨0,OW _,rfl,K_.refl _,fun j g=>aB g⟩
 case round=>
  obtain⟨k,L,rfl,f,p⟩:=hrel;have q:=Kz p;clear p;by_cases h:k<l.length
  ·obtain⟨b,o,M,rfl,N,d,E,F,rfl,G⟩:=D.kept f k h;have s:=C (l.getD k Qz.zero) (by simp[List.getD,h]);obtain⟨c,m⟩:=ag (l.getD k Qz.zero);rw[<-m] at d s G;have t:=Kz m;clear m;have v:=d 0 _ rfl;have H:=d 1 _ rfl;have I:=d 2 _ rfl;simp only[PR] at v;clear d;go_wp2_with fail
   refine (x_ _ c E F s).mono ?_;rintro e O ⟨n,x⟩;have y:=f.trans x;clear v H I f x;rcases n.cases with⟨rfl,z⟩|⟨rfl,A⟩
   ·have J:=Kz z;clear z n;go_wp2
    go_ret
    exact⟨⟨k,rfl,Or.inl ⟨k,h,rfl,by rw[<-t.o];exact J.o⟩⟩,y⟩
   ·have K:=Kz A;clear A n;go_wp2
    go_roundw
    case rel=>
     refine⟨k+1,by omega,by go_num,y,fun j g=>?_⟩;by_cases e:j=k
     ·subst e;rw[<-t.o];exact K.o
     ·exact q.o j (by omega)
    case measure=>simp[intOf];omega
  ·go_wp2
   go_ret
   exact⟨⟨-1,rfl,Or.inr ⟨rfl,fun j g=>q.o j (by omega)⟩⟩,f⟩
theorem I_(w:Qy)(a:Qx)(cap:Nat)(l:List Qz)(C:l.length<=maxLen)(D:∀c∈l,c.Fits)(E:bJ w a l):
  Calls prog 143 #[.slice a l.length cap,.func (.func 108) #[] #[]] w fun e w'=>(∃r,e= .returned (.int .i64 r)/\Kg l nL r)/\K_ w w':=by
 unfold maxLen at C;go_enter func143,ntmps143
 go_wp2
 go_loopw [8] (fun i wr=>∃k:Nat,k<=l.length/\i= .int .i64 k/\K_ w wr/\Dr l nL k) (fun i _=>l.length-(intOf i).toNat)
 case atStart=>exact⟨0,OW _,rfl,K_.refl _,fun j g=>aB g⟩
 case round=>
  obtain⟨k,L,rfl,f,p⟩:=hrel;have q:=Kz p;clear p;by_cases h:k<l.length
  ·obtain⟨b,o,M,rfl,N,d,F,G,rfl,s⟩:=E.kept f k h;have t:=D (l.getD k Qz.zero) (by simp[List.getD,h]);obtain⟨c,m⟩:=ag (l.getD k Qz.zero);rw[<-m] at d t s;have v:=Kz m;clear m;have x:=d 0 _ rfl;have H:=d 1 _ rfl;have I:=d 2 _ rfl;simp only[PR] at x;clear d;go_wp2_with fail
   refine (zV _ c F G t s).mono ?_;rintro e O ⟨n,y⟩;have z:=f.trans y;clear x H I f y;rcases n.cases with⟨rfl,A⟩|⟨rfl,B⟩
   ·have J:=Kz A;clear A n;go_wp2
    go_ret
    exact⟨⟨k,rfl,Or.inl ⟨k,h,rfl,by rw[<-v.o];exact J.o⟩⟩,z⟩
   ·have K:=Kz B;clear B n;go_wp2
    go_roundw
    case rel=>
     refine⟨k+1,by omega,by go_num,z,fun j g=>?_⟩;by_cases e:j=k
     ·subst e;rw[<-v.o];exact K.o
     ·exact q.o j (by omega)
    case measure=>simp[intOf];omega
  ·go_wp2
   go_ret
   exact⟨⟨-1,rfl,Or.inr ⟨rfl,fun j g=>q.o j (by omega)⟩⟩,f⟩
theorem zF(w:Qy)(a:Qx)(cap:Nat)(l:List Qz)(k:l.length<=maxLen)(m:∀c∈l,c.Fits)(n:bJ w a l):
  Calls prog 105 #[.slice a l.length cap,.func (.func 106) #[] #[]] w fun e w'=>Says e (sN l jL)/\K_ w w':=by
 go_enter func105,ntmps105
 go_wp2_with fail
 refine (EY _ a cap l k m n).mono ?_;rintro e s ⟨⟨r,rfl,f⟩,g⟩;have h:=Kz f;clear f;by_cases j:0<=r
 ·have p:decide (0<=r)=true:=by simpa using j
  go_wp2
  go_ret
  exact⟨Says.yes (by rcases h.o with⟨i,b,_,d⟩ | ⟨rfl,_⟩;exact⟨i,b,d⟩;omega),g⟩
 ·have p:decide (0<=r)=false:=by simpa using j
  go_wp2
  go_ret
  exact⟨Says.no (by rcases h.o with⟨i,b,rfl,d⟩ | ⟨rfl,q⟩;omega;exact fun ⟨i,b,d⟩=>q i b d),g⟩
theorem Br(w:Qy)(a:Qx)(cap:Nat)(l:List Qz)(k:l.length<=maxLen)(m:∀c∈l,c.Fits)(n:bJ w a l):
  Calls prog 105 #[.slice a l.length cap,.func (.func 108) #[] #[]] w fun e w'=>Says e (sN l nL)/\K_ w w':=by
 go_enter func105,ntmps105
 go_wp2_with fail
 refine (I_ _ a cap l k m n).mono ?_;rintro e s ⟨⟨r,rfl,f⟩,g⟩;have h:=Kz f;clear f;by_cases j:0<=r
 ·have p:decide (0<=r)=true:=by simpa using j
  go_wp2
  go_ret
  exact⟨Says.yes (by rcases h.o with⟨i,b,_,d⟩ | ⟨rfl,_⟩;exact⟨i,b,d⟩;omega),g⟩
 ·have p:decide (0<=r)=false:=by simpa using j
  go_wp2
  go_ret
  exact⟨Says.no (by rcases h.o with⟨i,b,rfl,d⟩ | ⟨rfl,q⟩;omega;exact fun ⟨i,b,d⟩=>q i b d),g⟩
def qA(l:List Qz)(i:Nat):Prop:=Op.bytesLess (l.getD i Qz.zero).name.toList (l.getD (i+1) Qz.zero).name.toList=false
def jA(l:List Qz):Prop:=∃i,i+1<l.length/\qA l i
def Ie(l:List Qz)(k:Nat):Prop:=∀j,j+1<k->¬qA l j
def cu(l:List Qz)(c:Int):Prop:=
 (60<l.length/\c=1)\/(¬60<l.length/\sN l jL/\c=2)\/(¬60<l.length/\¬sN l jL/\jA l/\c=3)\/
 (¬60<l.length/\¬sN l jL/\¬jA l/\sN l nL/\c=4)\/(¬60<l.length/\¬sN l jL/\¬jA l/\¬sN l nL/\c=0)
theorem cu.unique{l:List Qz}{c f:Int}(i:cu l c)(j:cu l f):c=f:=by
 rcases i with⟨a,rfl⟩ | ⟨a,d,rfl⟩ | ⟨a,d,g,rfl⟩ | ⟨a,d,g,k,rfl⟩ | ⟨a,d,g,k,rfl⟩ <;>
  rcases j with⟨b,rfl⟩ | ⟨b,e,rfl⟩ | ⟨b,e,h,rfl⟩ | ⟨b,e,h,m,rfl⟩ | ⟨b,e,h,m,rfl⟩ <;> first | rfl | contradiction
theorem nC(w:Qy)(a:Qx)(cap:Nat)(l:List Qz)(hl:l.length<=maxLen)(S:∀s∈l,s.Fits)(H:bJ w a l):
  Calls prog 18 #[.agg #[.slice a l.length cap]] w fun e w'=>(∃c,e= .returned (.int .i64 c)/\cu l c)/\K_ w w':=by
 unfold maxLen at hl;have m:K_ w (w.alloc (.cells #[.slice a l.length cap] 37)):=ak _ _;by_cases a3:(60:Int)<l.length
 ·go_enter func18,ntmps18
  go_wp2
  go_ret
  exact⟨⟨1,rfl,Or.inl ⟨by omega,rfl⟩⟩,m⟩
 ·have a4:decide ((60:Int)<l.length)=false:=by simpa using a3
  go_enter func18,ntmps18
  go_wp2
  clear a4;go_loopw [3] (fun i wr=>∃k:Nat,k<=l.length/\i= .int .i64 k/\K_ (w.alloc (.cells #[.slice a l.length cap] 37)) wr/\Dr l jL k) (fun i _=>l.length-(intOf i).toNat)
  case atStart=>exact⟨0,OW _,rfl,K_.refl _,fun j q=>aB q⟩
  case round=>
   obtain⟨k,T,rfl,d,r⟩:=hrel;have h:=Kz r;clear r;obtain⟨B,C⟩:=d.rules;have v:=d.size;simp only[PL] at v;by_cases g:k<l.length
   ·obtain⟨b,o,U,rfl,V,f,J,K,rfl,x⟩:=(H.kept m).kept d k g;have A:=S (l.getD k Qz.zero) (by simp[List.getD,g]);obtain⟨I,y⟩:=ag (l.getD k Qz.zero);rw[<-y] at f A;have D:=Kz y;clear y;have t:=f 0 _ rfl;simp only[PR] at t;clear f x;go_wp2_with fail
    refine (r_ _ I.name A.name).mono ?_;rintro e w1 ⟨z,E⟩;have a5:=Eq.symm E;clear E;subst a5;rcases z.cases with⟨rfl,F⟩|⟨rfl,G⟩
    ·have L:=Kz F;clear F z t;go_wp2
     go_roundw
     case rel=>
      refine⟨k+1,by omega,by go_num,d,fun j q=>?_⟩;by_cases e:j=k
      ·subst e;rw[<-D.o];exact fun p=>p L.o
      ·exact h.o j (by omega)
     case measure=>simp[intOf];omega
    ·have M:=Kz G;clear G z t;go_wp2
     go_ret
     exact⟨⟨2,rfl,Or.inr (Or.inl ⟨by omega,⟨k,g,by rw[<-D.o];exact M.o⟩,rfl⟩)⟩,m.trans d⟩
   ·have N:Hid (¬sN l jL):=fun ⟨i,W,p⟩=>h.o i (by omega) p
    clear h;go_wp2
    clear B C v;go_loopw [4] (fun i O=>∃n:Nat,1<=n/\n<=l.length+1/\i= .int .i64 n/\K_ (w.alloc (.cells #[.slice a l.length cap] 37)) O/\Ie l n) (fun i _=>l.length+2-(intOf i).toNat)
    case atStart=>exact⟨1,by omega,by omega,rfl,d,fun j q=>Qi q (by omega)⟩
    case round=>
     clear d T g;obtain⟨n,a7,a8,rfl,d,r⟩:=hrel;have h:=Kz r;clear r;obtain⟨B,C⟩:=d.rules;have v:=d.size;simp only[PL] at v;by_cases g:n<l.length
     ·obtain⟨b,o,U,rfl,V,f,J,K,rfl,x⟩:=(H.kept m).kept d (n-1) (by omega);obtain⟨b',o',a9,X,b0,P,ba,da,rfl,a6⟩:=(H.kept m).kept d n g;simp only[PN,Qt,and_true] at X;obtain⟨rfl,rfl⟩:=X;obtain⟨Y,Q⟩:=ag ((l.getD (n-1) Qz.zero));obtain⟨Z,R⟩:=ag ((l.getD n Qz.zero));rw[<-Q] at f;rw[<-R] at P;have HX:Hid (l.getD (n-1) Qz.zero=Y):=Q.symm;have a0:Hid (l.getD (n-1+1) Qz.zero=Z):=by rw[R,show n-1+1=n by omega];exact rfl
      clear Q R x a6;have t:=f 0 _ rfl;have d0:=P 0 _ rfl;simp only[PR] at t d0;clear f P;have i0:(0:Int)<=(n:Int)-1:=by omega
      have i1:(n:Int)-1<(l.length:Int):=by omega
      cases a1:Op.bytesLess Y.name.toList Z.name.toList
      ·go_wp2
       go_region
       all_goals
        go_wp2
        go_ret
        exact⟨⟨3,rfl,Or.inr (Or.inr (Or.inl ⟨by omega,N.o,⟨n-1,by omega,by unfold qA;rw[HX.o,a0.o];exact a1⟩,rfl⟩))⟩,m.trans (by repeat (first | apply K_.drew | exact d))⟩
      ·go_wp2
       go_region
       all_goals
        go_wp2
        go_roundw
        case rel=>
         refine⟨n+1,by omega,by omega,by go_num,by repeat (first | apply K_.drew | exact d),fun j q=>?_⟩;by_cases e:j=n-1
         ·subst e;unfold qA;rw[HX.o,a0.o,a1];simp
         ·exact h.o j (by omega)
        case measure=>simp[intOf];omega
     ·have HC:Hid (¬jA l):=fun ⟨i,W,p⟩=>h.o i (by omega) p
      clear h;go_wp2
      clear B C v;go_loopw [5] (fun i O=>∃k:Nat,k<=l.length/\i= .int .i64 k/\K_ (w.alloc (.cells #[.slice a l.length cap] 37)) O/\Dr l nL k) (fun i _=>l.length-(intOf i).toNat)
      case atStart=>exact⟨0,OW _,rfl,d,fun j q=>aB q⟩
      case round=>
       clear d g;obtain⟨k,T,rfl,d,r⟩:=hrel;have h:=Kz r;clear r;obtain⟨B,C⟩:=d.rules;have v:=d.size;simp only[PL] at v;by_cases g:k<l.length
       ·obtain⟨b,o,U,rfl,V,f,J,K,rfl,x⟩:=(H.kept m).kept d k g;have A:=S (l.getD k Qz.zero) (by simp[List.getD,g]);obtain⟨I,y⟩:=ag (l.getD k Qz.zero);rw[<-y] at f A x;have D:=Kz y;clear y;have t:=f 0 _ rfl;have c1:=f 1 _ rfl;have c2:=f 2 _ rfl;simp only[PR] at t;clear f;go_wp2_with fail
        refine (il _ I.cost J K I.steps A.steps A.each x).mono ?_;rintro e w1 ⟨z,E⟩;have a2:=d.trans E;clear d E t c1 c2 x B C;rcases z.cases with⟨rfl,F⟩|⟨rfl,G⟩
        ·have L:=Kz F;clear F z;go_wp2
         go_roundw
         case rel=>
          refine⟨k+1,by omega,by go_num,a2,fun j q=>?_⟩;by_cases e:j=k
          ·subst e;rw[<-D.o];exact fun p=>p L.o
          ·exact h.o j (by omega)
         case measure=>simp[intOf];omega
        ·have M:=Kz G;clear G z;go_wp2
         go_ret
         exact⟨⟨4,rfl,Or.inr (Or.inr (Or.inr (Or.inl ⟨by omega,N.o,HC.o,⟨k,g,by rw[<-D.o];exact M.o⟩,rfl⟩)))⟩,m.trans a2⟩
       ·go_wp2
        go_ret
        exact⟨⟨0,rfl,Or.inr (Or.inr (Or.inr (Or.inr ⟨by omega,N.o,HC.o,fun ⟨i,W,p⟩=>h.o i (by omega) p,rfl⟩)))⟩,m.trans d⟩
theorem Tryz.NT :prog.underlying 3=some (.int .i64):=by kernel_rfl
