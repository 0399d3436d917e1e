import Derived.Test.YtgnkgfjmbmcfcaaGreatDoorKWImpl
set_option maxRecDepth 100000
set_option maxHeartbeats 25600000
namespace Go.Proofs.YtgnkgfjmbmcfcaaGreatDoor
open Go.RowKit Go.Proofs.Tryz
def NN(s:Xq)(n:Int):Prop:=s.cases.length<=5/\wG s n/\(0<=s.els/\s.els<n)/\(-1<=s.fall/\s.fall<n)
theorem zZ(w:Qy)(s:Xq)(m g:Qx)(ca cc:Nat)(n:Int)(v:s.Fits)(H:1<=n/\n<=20)(I:dw w g s.cases):
  Calls prog 278 #[.agg #[.slice m s.asks.length ca,.int .i64 s.on,.slice g s.cases.length cc,.int .i64 s.els,.int .i64 s.fall,.bool s.fin,.bool s.bad,.string s.give],.int .i64 n] w fun e w'=>Says e (NN s n)/\K_ w w':=by
 have J:=v.cases;unfold maxLen at J;obtain⟨P,Q⟩:=H;have c:K_ w (w.alloc (.cells #[.slice m s.asks.length ca,.int .i64 s.on,.slice g s.cases.length cc,.int .i64 s.els,.int .i64 s.fall,.bool s.fin,.bool s.bad,.string s.give] 270)):=ak _ _;by_cases R:(s.cases.length:Int)<=5
 ·go_enter func278,ntmps278
  go_wp2
  go_loopw [16] (fun p wr=>∃k:Nat,k<=s.cases.length/\p= .int .i64 k/\K_ (w.alloc (.cells #[.slice m s.asks.length ca,.int .i64 s.on,.slice g s.cases.length cc,.int .i64 s.els,.int .i64 s.fall,.bool s.fin,.bool s.bad,.string s.give] 270)) wr/\∀j,j<k->dW s n j) (fun p _=>s.cases.length-(intOf p).toNat)
  case atStart=>exact⟨0,OW _,rfl,K_.refl _,fun j q=>aB q⟩
  case round=>
   obtain⟨k,S,rfl,a,x⟩:=hrel;have r:=Kz x;clear x;have K:=a.size;simp only[PL] at K;by_cases d:k<s.cases.length
   ·obtain⟨b,o,rfl,T,i⟩:=(I.kept c).kept a k d;have y:(s.cases.getD k aT.zero).text.size<=maxLen:=(v.tN _ (by simp[List.getD,d])).1;obtain⟨f,t⟩:=ag (s.cases.getD k aT.zero);rw[<-t] at i y;have l:=Kz t;clear t;unfold maxLen at y;have L:=i 0 _ rfl;have U:=i 1 _ rfl;simp only[PR] at L;clear i;by_cases V:(f.text.size:Int)<=200
    ·by_cases W:0<=f.goto
     ·cases z:decide (f.goto<n)
      ·have M:n<=f.goto:=by simpa using z
       go_wp2
       go_ret
       exact⟨Says.no fun h=>by have:=h.2.1 k d;unfold dW at this;rw[<-l.o] at this;obtain⟨A,B,C⟩:=this;omega,c.trans (a.alloc _)⟩
      ·have M:f.goto<n:=by simpa using z
       go_wp2
       go_roundw
       case rel=>
        refine⟨k+1,by omega,by go_num,a.alloc _,fun j q=>?_⟩;by_cases e:j=k
        ·subst e;unfold dW;rw[<-l.o];exact⟨by omega,by omega,by omega⟩
        ·exact aP r j (by omega)
       case measure=>simp[intOf];omega
     ·go_wp2
      go_ret
      exact⟨Says.no fun h=>by have:=h.2.1 k d;unfold dW at this;rw[<-l.o] at this;obtain⟨A,B,C⟩:=this;omega,c.trans (a.alloc _)⟩
    ·go_wp2
     go_ret
     exact⟨Says.no fun h=>by have:=h.2.1 k d;unfold dW at this;rw[<-l.o] at this;obtain⟨A,B,C⟩:=this;omega,c.trans (a.alloc _)⟩
   ·obtain⟨X,Y⟩:=a.rules;have D:Hid (wG s n):=fun j q=>aP r j (by omega)
    clear r;by_cases Z:0<=s.els
    ·cases E:decide (s.els<n)
     ·have N:n<=s.els:=by simpa using E
      go_wp2
      go_ret
      exact⟨Says.no fun h=>by have:=h.2.2;omega,c.trans a⟩
     ·have N:s.els<n:=by simpa using E
      cases F:(s.fall == -1)
      ·by_cases b4:0<=s.fall
       ·cases G:decide (s.fall<n)
        ·have O:n<=s.fall:=by simpa using G
         go_wp2
         go_ret
         exact⟨Says.no fun h=>by have:=h.2.2;omega,c.trans a⟩
        ·have O:s.fall<n:=by simpa using G
         go_wp2
         go_ret
         exact⟨Says.yes ⟨by omega,D.out,⟨by omega,by omega⟩,⟨by omega,by omega⟩⟩,c.trans a⟩
       ·go_wp2
        go_ret
        exact⟨Says.no fun h=>by have:=h.2.2;simp at F;omega,c.trans a⟩
      ·go_wp2
       go_ret
       exact⟨Says.yes ⟨by omega,D.out,⟨by omega,by omega⟩,by simp at F;omega⟩,c.trans a⟩
    ·go_wp2
     go_ret
     exact⟨Says.no fun h=>by have:=h.2.2;omega,c.trans a⟩
 ·go_enter func278,ntmps278
  go_wp2
  go_ret
  exact⟨Says.no fun h=>by have:=h.1;omega,c⟩
