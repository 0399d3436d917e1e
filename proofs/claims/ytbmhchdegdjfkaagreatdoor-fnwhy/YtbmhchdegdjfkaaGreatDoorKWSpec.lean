import Derived.Test.YtbmhchdegdjfkaaGreatDoorKWImpl
set_option maxRecDepth 100000
set_option maxHeartbeats 25600000
namespace Go.Proofs.YtbmhchdegdjfkaaGreatDoor
open Go.RowKit Go.Proofs.Tryz
theorem Strs.take{w:KH}{a:KG}{l:List KC}(h:Strs w a l)(k:Nat):Strs w a (l.take k):=by
 intro i c;have d:i<l.length:=by simp at c;omega
 have e:i<k:=by simp at c;omega
 obtain⟨b,o,f,j,m⟩:=h i d;refine⟨b,o,f,j, ?_⟩;rw[m];simp[List.getD,e]
theorem Et{l:List KC}{k:Nat}(d:k<=l.length){v:KC}:Has (l.take k) v↔∃i,i<k/\l.getD i ByteArray.empty=v:=by
 unfold Has;constructor
 ·rintro⟨i,a,e⟩;have c:i<k:=by simp at a;omega
  exact⟨i,c,by rw[<-e];simp[List.getD,c]⟩
 ·rintro⟨i,a,e⟩;exact⟨i,by simp;omega,by rw[<-e];simp[List.getD,a]⟩
theorem oC(w:KH)(a:KG)(b k:Nat)(l:List KC)(v:KC)(j:l.length<=maxLen)(c:k<=l.length)(d:Strs w a l):
  Calls prog 76 #[.slice a k b,.string v] w fun e w'=>Says e (∃i,i<k/\l.getD i ByteArray.empty=v)/\w'=w:=by
 have e:(l.take k).length=k:=by simp;omega
 have:=yx w a b (l.take k) v (by rw[e];omega) (d.take k);rw[e] at this;exact this.mono fun e w' ⟨h,f⟩=>⟨h.congr (Et c),f⟩
def Ik(s:Xq):Prop:=s.asks.length<=5/\pU s.asks/\(s.on=0\/(0<=s.on/\s.on<s.asks.length))
def yZ(l:List KC)(j:Nat):Prop:=iI (l.getD j ByteArray.empty)/\∀m,m<j->l.getD m ByteArray.empty≠l.getD j ByteArray.empty
theorem vM(w:KH)(s:Xq)(q v:KG)(f x:Nat)(y:s.Fits)(H:Strs w q s.asks)(U:s.asks.length<=f):
  Calls prog 236 #[.agg #[.slice q s.asks.length f,.int .i64 s.on,.slice v s.cases.length x,.int .i64 s.els,.int .i64 s.fall,.bool s.fin,.bool s.bad,.string s.give]] w fun e w'=>Says e (Ik s)/\K_ w w':=by
 have N:=y.asks;unfold maxLen at N;have c:K_ w (w.alloc (.cells #[.slice q s.asks.length f,.int .i64 s.on,.slice v s.cases.length x,.int .i64 s.els,.int .i64 s.fall,.bool s.fin,.bool s.bad,.string s.give] 233)):=ag _ _;by_cases V:(s.asks.length:Int)<=5
 ·go_enter func236,ntmps236
  go_wp2
  go_loopw [14] (fun i wr=>∃k:Nat,k<=s.asks.length/\i= .int .i64 k/\K_ (w.alloc (.cells #[.slice q s.asks.length f,.int .i64 s.on,.slice v s.cases.length x,.int .i64 s.els,.int .i64 s.fall,.bool s.fin,.bool s.bad,.string s.give] 233)) wr/\∀j,j<k->yZ s.asks j) (fun i _=>s.asks.length-(intOf i).toNat)
  case atStart=>exact⟨0,Ja _,rfl,K_.refl _,fun j A=>aP A⟩
  case round=>
   obtain⟨k,W,rfl,a,I⟩:=hrel;have B:=Kz I;clear I;have O:=a.size;simp only[JG] at O;by_cases r:k<s.asks.length
   ·obtain⟨b,o,rfl,P,J⟩:=(H.kept c).kept a k r;have K:(s.asks.getD k ByteArray.empty).size<=maxLen:=y.dF _ (by simp[List.getD,r]);obtain⟨L,C⟩:=ah (s.asks.getD k ByteArray.empty);rw[<-C] at J K;have t:=Kz C;clear C;go_wp2_with fail
    refine (lh _ L K).mono ?_;rintro e w1 ⟨d,D⟩;have l:=a.trans D;have E:=(H.kept c).kept l;clear J P;rcases d.cases with⟨rfl,m⟩|⟨rfl,n⟩
    ·have Q:=Kz m;clear m d a D;obtain⟨F,G⟩:=l.rules;have X:k<=f:=by omega
     go_wp2_with fail
     refine (oC _ _ f k s.asks L y.asks (by omega) E).mono ?_;rintro e w2 ⟨d,rfl⟩;rcases d.cases with⟨rfl,m⟩|⟨rfl,n⟩
     ·have p:=Kz m;clear m d E F G;go_wp2
      go_ret
      exact⟨Says.no fun h=>by obtain⟨i,R,e⟩:=p.o;exact (h.2.1 k r).2 i R (by rw[e,t.o]),c.trans l⟩
     ·have p:=Kz n;clear n d E F G;go_wp2
      go_roundw
      case rel=>
       refine⟨k+1,by omega,by go_num,l,fun j A=>?_⟩;by_cases e:j=k
       ·subst e;exact⟨by rw[<-t.o];exact Q.o,fun S T h=>p.o ⟨S,T,by rw[h,t.o]⟩⟩
       ·exact aW B j (by omega)
      case measure=>simp[intOf];omega
    ·have p:=Kz n;clear n d a D;go_wp2
     go_ret
     exact⟨Says.no fun h=>p.o (by rw[t.o];exact (h.2.1 k r).1),c.trans l⟩
   ·obtain⟨F,G⟩:=a.rules;have M:Hid (pU s.asks):=fun j A=>aW B j (by omega)
    clear B;go_wp2
    ·go_ret
     exact⟨(Says.dec _).congr ⟨fun h=>⟨by omega,M.out,by omega⟩,fun h=>by have:=h.2.2;omega⟩,c.trans a⟩
    ·go_ret
     exact⟨(Says.dec _).congr ⟨fun h=>⟨by omega,M.out,by omega⟩,fun h=>by have:=h.2.2;omega⟩,c.trans a⟩
    all_goals
     go_ret
     exact⟨Says.no fun h=>by have:=h.2.2;omega,c.trans a⟩
 ·go_enter func236,ntmps236
  go_wp2
  go_ret
  exact⟨Says.no fun h=>by have:=h.1;omega,c⟩
theorem kC(w:KH)(a:KG)(K:Nat)(l:List KC)(L:l.length<=maxLen)(M:∀s∈l,s.size<=maxLen)(p:Strs w a l):
  Calls prog 84 #[.slice a l.length K] w fun e w'=>Says e (pU l)/\K_ w w':=by
 unfold maxLen at L;go_enter func84,ntmps84
 go_wp2
 go_loopw [3] (fun r wr=>∃k:Nat,k<=l.length/\r= .int .i64 k/\K_ w wr/\∀j,j<k->iI (l.getD j ByteArray.empty)/\∀m,m<j->l.getD m ByteArray.empty≠l.getD j ByteArray.empty) (fun r _=>l.length-(intOf r).toNat)
 case atStart=>exact⟨0,Ja _,rfl,K_.refl _,fun j c=>aP c⟩
 case round=>
  obtain⟨k,U,rfl,d,A⟩:=hrel;have B:=Kz A;clear A;by_cases f:k<l.length
  ·obtain⟨b,o,rfl,V,C⟩:=p.kept d k f;have D:(l.getD k ByteArray.empty).size<=maxLen:=M _ (by simp[List.getD,f]);obtain⟨s,v⟩:=ah (l.getD k ByteArray.empty);rw[<-v] at C D;have n:=Kz v;clear v;go_wp2_with fail
   refine (lZ _ s D).mono ?_;rintro e w1 ⟨E,rfl⟩;rcases E.cases with⟨rfl,F⟩|⟨rfl,N⟩
   ·have O:=Kz F;clear F E;go_wp2
    clear C;go_loopw [4] (fun m wr=>∃q:Nat,q<=k/\m= .int .i64 q/\K_ w wr/\∀t,t<q->l.getD t ByteArray.empty≠s) (fun m _=>k-(intOf m).toNat)
    case atStart=>exact⟨0,Ja _,rfl,d,fun j c=>aP c⟩
    case round=>
     obtain⟨q,W,rfl,h,G⟩:=hrel;have H:=Kz G;clear G d;by_cases P:q<k
     ·obtain⟨Q,R,i,X,S⟩:=p.kept h k f;simp only[JI,Kv,and_true] at i;obtain⟨rfl,rfl⟩:=i;obtain⟨Q,R,i,Y,T⟩:=p.kept h q (by omega);simp only[JI,Kv,and_true] at i;obtain⟨rfl,rfl⟩:=i;rw[<-n.o] at S;obtain⟨t,x⟩:=ah (l.getD q ByteArray.empty);rw[<-x] at T;have I:=Kz x;clear x;cases J:(t.toList == s.toList)
      ·go_wp2
       go_region
       all_goals
        go_wp2
        go_roundw
        case rel=>
         refine⟨q+1,by omega,by go_num,by repeat (first | apply K_.drew | exact h),fun j c=>?_⟩;by_cases e:j=q
         ·subst e;rw[<-I.o];exact qf J
         ·exact aW H j (by omega)
        case measure=>simp[intOf];omega
      ·go_wp2
       go_region
       all_goals
        go_wp2
        go_ret
        exact⟨Says.no fun y=>(y k f).2 q P (by rw[<-I.o,<-n.o];exact nP.1 J),by repeat (first | apply K_.drew | exact h)⟩
     ·go_wp2
      go_roundw
      case rel=>
       refine⟨k+1,by omega,by go_num,h,fun j c=>?_⟩;by_cases e:j=k
       ·subst e;rw[<-n.o];exact⟨O.o,fun m Z=>aW H m (by omega)⟩
       ·exact aW B j (by omega)
      case measure=>simp[intOf];omega
   ·go_wp2
    go_ret
    exact⟨Says.no fun y=>N (by rw[n.o];exact (y k f).1),d⟩
  ·go_wp2
   go_ret
   exact⟨Says.yes fun j c=>aW B j (by omega),d⟩
