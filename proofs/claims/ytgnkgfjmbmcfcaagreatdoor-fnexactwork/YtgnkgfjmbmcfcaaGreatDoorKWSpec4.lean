import Derived.Test.YtgnkgfjmbmcfcaaGreatDoorKWSpec
set_option maxRecDepth 100000
set_option maxHeartbeats 25600000
namespace Go.Proofs.YtgnkgfjmbmcfcaaGreatDoor
open Go.RowKit Go.Proofs.Tryz
theorem vX(w:Qy)(s:Xq)(A D:Qx)(ca cc:Nat)(n:Int)(i:s.Fits)(R:0<=n/\n<=20)
  (H:Strs w A s.asks) (I:dw w D s.cases) (S:s.fin=false) (T:wO s n):
  Calls prog 96 #[.agg #[.slice A s.asks.length ca,.int .i64 s.on,.slice D s.cases.length cc,.int .i64 s.els,.int .i64 s.fall,.bool s.fin,.bool s.bad,.string s.give],.int .i64 n] w
   fun e w'=>Says e (wG s n)/\K_ w w':=by
 rw[S];obtain⟨a2,a3⟩:=R;have U:=i.asks;have V:=i.cases;have W:=i.give;unfold maxLen at U V W;have J:=tV s.give;have K:=Kz J;clear J;obtain⟨X,L,a4,M,b1,⟨b2,b3⟩,⟨b4,b5⟩,N⟩:=T;have a5:s.give.toList=[]:=K.o.2 L;have Y:=Kz M;rw[X];have E:K_ w (w.alloc (.cells #[.slice A s.asks.length ca,.int .i64 s.on,.slice D s.cases.length cc,.int .i64 s.els,.int .i64 s.fall,.bool false,.bool false,.string s.give] 172)):=ak _ _;clear L M K;have a6:s.els<=n-1:=by omega
 have a7:s.fall<=n-1:=by omega
 have O:=Kz N;clear N;go_enter func96,ntmps96
 go_wp2_with fail
 refine (pK _ A ca s.asks i.asks i.wV (H.kept E)).mono ?_;rintro e w1 ⟨P,B⟩;have d:=E.trans B;rcases P.cases with⟨rfl,Z⟩|⟨rfl,a0⟩
 ·clear Z P;obtain⟨a8,a9⟩:=B.rules;have a1:=B.size;simp only[PL] at a1;clear E B;have Q:=I.kept d;clear I H;by_cases C:s.on=0
  ·have ho:(s.on != 0)=false:=by rw[C];rfl
   clear C;go_wp2
   go_loop [5] (fun l=>∃k:Nat,k<=s.cases.length/\l= .int .i64 k/\∀j,j<k->dW s n j) (fun l=>s.cases.length-(intOf l).toNat)
   case atStart=>exact⟨0,OW _,rfl,fun j m=>aB m⟩
   case round=>
    obtain⟨k,hk,rfl,q⟩:=hrel;have r:=Kz q;clear q;by_cases a:k<s.cases.length
    ·obtain⟨b,o,rfl,hb,f⟩:=Q k a;have t:(s.cases.getD k aT.zero).text.size<=maxLen:=(i.tN _ (by simp[List.getD,a])).1;obtain⟨c,p⟩:=ag (s.cases.getD k aT.zero);rw[<-p] at f t;have g:=Kz p;clear p;unfold maxLen at t;have F:=f 0 _ rfl;have c1:=f 1 _ rfl;simp only[PR] at F;clear f;by_cases d1:(c.text.size:Int)<=200
     ·by_cases d2:0<=c.goto
      ·cases v:decide (c.goto<=n-1)
       ·have G:n-1<c.goto:=by simpa using v
        go_wp2
        go_ret
        exact⟨Says.no fun h=>by have:=h k a;unfold dW at this;rw[<-g.o] at this;obtain⟨x,y,z⟩:=this;omega,d⟩
       ·have G:c.goto<=n-1:=by simpa using v
        go_wp2
        go_round
        case rel=>
         refine⟨k+1,by omega,by go_num,fun j m=>?_⟩;by_cases e:j=k
         ·subst e;unfold dW;rw[<-g.o];exact⟨by omega,by omega,by omega⟩
         ·exact aP r j (by omega)
        case measure=>simp[intOf];omega
      ·go_wp2
       go_ret
       exact⟨Says.no fun h=>by have:=h k a;unfold dW at this;rw[<-g.o] at this;obtain⟨x,y,z⟩:=this;omega,d⟩
     ·go_wp2
      go_ret
      exact⟨Says.no fun h=>by have:=h k a;unfold dW at this;rw[<-g.o] at this;obtain⟨x,y,z⟩:=this;omega,d⟩
    ·go_wp2
     go_ret
     exact⟨Says.yes fun j m=>aP r j (by omega),d⟩
  ·have ho:(s.on != 0)=true:=bne_iff_ne.2 C;have o1:0<=s.on:=by have:=O.o;omega
   have o3:s.on<=(s.asks.length:Int)-1:=by have:=O.o;omega
   clear C;go_wp2
   go_loop [5] (fun l=>∃k:Nat,k<=s.cases.length/\l= .int .i64 k/\∀j,j<k->dW s n j) (fun l=>s.cases.length-(intOf l).toNat)
   case atStart=>exact⟨0,OW _,rfl,fun j m=>aB m⟩
   case round=>
    obtain⟨k,hk,rfl,q⟩:=hrel;have r:=Kz q;clear q;by_cases a:k<s.cases.length
    ·obtain⟨b,o,rfl,hb,f⟩:=Q k a;have t:(s.cases.getD k aT.zero).text.size<=maxLen:=(i.tN _ (by simp[List.getD,a])).1;obtain⟨c,p⟩:=ag (s.cases.getD k aT.zero);rw[<-p] at f t;have g:=Kz p;clear p;unfold maxLen at t;have F:=f 0 _ rfl;have c1:=f 1 _ rfl;simp only[PR] at F;clear f;by_cases d1:(c.text.size:Int)<=200
     ·by_cases d2:0<=c.goto
      ·cases v:decide (c.goto<=n-1)
       ·have G:n-1<c.goto:=by simpa using v
        go_wp2
        go_ret
        exact⟨Says.no fun h=>by have:=h k a;unfold dW at this;rw[<-g.o] at this;obtain⟨x,y,z⟩:=this;omega,d⟩
       ·have G:c.goto<=n-1:=by simpa using v
        go_wp2
        go_round
        case rel=>
         refine⟨k+1,by omega,by go_num,fun j m=>?_⟩;by_cases e:j=k
         ·subst e;unfold dW;rw[<-g.o];exact⟨by omega,by omega,by omega⟩
         ·exact aP r j (by omega)
        case measure=>simp[intOf];omega
      ·go_wp2
       go_ret
       exact⟨Says.no fun h=>by have:=h k a;unfold dW at this;rw[<-g.o] at this;obtain⟨x,y,z⟩:=this;omega,d⟩
     ·go_wp2
      go_ret
      exact⟨Says.no fun h=>by have:=h k a;unfold dW at this;rw[<-g.o] at this;obtain⟨x,y,z⟩:=this;omega,d⟩
    ·go_wp2
     go_ret
     exact⟨Says.yes fun j m=>aP r j (by omega),d⟩
 ·exact Qi Y.o a0
