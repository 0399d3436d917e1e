import Derived.Test.YtbmhchdegdjfkaaGreatDoorKWImpl
set_option maxRecDepth 100000
set_option maxHeartbeats 25600000
namespace Go.Proofs.YtbmhchdegdjfkaaGreatDoor
open Go.RowKit Go.Proofs.Tryz
def Hw(s:Xq)(n:Int):Prop:=s.cases.length<=5/\sM s n/\(0<=s.els/\s.els<n)/\(-1<=s.fall/\s.fall<n)
theorem vI(w:KH)(s:Xq)(p i:KG)(q r:Nat)(n:Int)(A:s.Fits)(L:1<=n/\n<=20)(M:jT w i s.cases):
  Calls prog 237 #[.agg #[.slice p s.asks.length q,.int .i64 s.on,.slice i s.cases.length r,.int .i64 s.els,.int .i64 s.fall,.bool s.fin,.bool s.bad,.string s.give],.int .i64 n] w fun e w'=>Says e (Hw s n)/\K_ w w':=by
 have N:=A.cases;unfold maxLen at N;obtain⟨T,U⟩:=L;have c:K_ w (w.alloc (.cells #[.slice p s.asks.length q,.int .i64 s.on,.slice i s.cases.length r,.int .i64 s.els,.int .i64 s.fall,.bool s.fin,.bool s.bad,.string s.give] 233)):=ag _ _;by_cases V:(s.cases.length:Int)<=5
 ·go_enter func237,ntmps237
  go_wp2
  go_loopw [16] (fun t wr=>∃k:Nat,k<=s.cases.length/\t= .int .i64 k/\K_ (w.alloc (.cells #[.slice p s.asks.length q,.int .i64 s.on,.slice i s.cases.length r,.int .i64 s.els,.int .i64 s.fall,.bool s.fin,.bool s.bad,.string s.give] 233)) wr/\∀j,j<k->dK s n j) (fun t _=>s.cases.length-(intOf t).toNat)
  case atStart=>exact⟨0,Ja _,rfl,K_.refl _,fun j v=>aP v⟩
  case round=>
   obtain⟨k,W,rfl,a,B⟩:=hrel;have x:=Kz B;clear B;have O:=a.size;simp only[JG] at O;by_cases d:k<s.cases.length
   ·obtain⟨b,o,rfl,X,l⟩:=(M.kept c).kept a k d;have C:(s.cases.getD k bD.zero).text.size<=maxLen:=(A.di _ (by simp[List.getD,d])).1;obtain⟨f,y⟩:=ah (s.cases.getD k bD.zero);rw[<-y] at l C;have m:=Kz y;clear y;unfold maxLen at C;have P:=l 0 _ rfl;have Y:=l 1 _ rfl;simp only[JM] at P;clear l;by_cases Z:(f.text.size:Int)<=200
    ·by_cases d2:0<=f.goto
     ·cases D:decide (f.goto<n)
      ·have Q:n<=f.goto:=by simpa using D
       go_wp2
       go_ret
       exact⟨Says.no fun h=>by have:=h.2.1 k d;unfold dK at this;rw[<-m.o] at this;obtain⟨E,F,G⟩:=this;omega,c.trans (a.alloc _)⟩
      ·have Q:f.goto<n:=by simpa using D
       go_wp2
       go_roundw
       case rel=>
        refine⟨k+1,by omega,by go_num,a.alloc _,fun j v=>?_⟩;by_cases e:j=k
        ·subst e;unfold dK;rw[<-m.o];exact⟨by omega,by omega,by omega⟩
        ·exact aW x j (by omega)
       case measure=>simp[intOf];omega
     ·go_wp2
      go_ret
      exact⟨Says.no fun h=>by have:=h.2.1 k d;unfold dK at this;rw[<-m.o] at this;obtain⟨E,F,G⟩:=this;omega,c.trans (a.alloc _)⟩
    ·go_wp2
     go_ret
     exact⟨Says.no fun h=>by have:=h.2.1 k d;unfold dK at this;rw[<-m.o] at this;obtain⟨E,F,G⟩:=this;omega,c.trans (a.alloc _)⟩
   ·obtain⟨a0,a1⟩:=a.rules;have H:Hid (sM s n):=fun j v=>aW x j (by omega)
    clear x;by_cases b1:0<=s.els
    ·cases I:decide (s.els<n)
     ·have R:n<=s.els:=by simpa using I
      go_wp2
      go_ret
      exact⟨Says.no fun h=>by have:=h.2.2;omega,c.trans a⟩
     ·have R:s.els<n:=by simpa using I
      cases J:(s.fall == -1)
      ·by_cases b4:0<=s.fall
       ·cases K:decide (s.fall<n)
        ·have S:n<=s.fall:=by simpa using K
         go_wp2
         go_ret
         exact⟨Says.no fun h=>by have:=h.2.2;omega,c.trans a⟩
        ·have S:s.fall<n:=by simpa using K
         go_wp2
         go_ret
         exact⟨Says.yes ⟨by omega,H.out,⟨by omega,by omega⟩,⟨by omega,by omega⟩⟩,c.trans a⟩
       ·go_wp2
        go_ret
        exact⟨Says.no fun h=>by have:=h.2.2;simp at J;omega,c.trans a⟩
      ·go_wp2
       go_ret
       exact⟨Says.yes ⟨by omega,H.out,⟨by omega,by omega⟩,by simp at J;omega⟩,c.trans a⟩
    ·go_wp2
     go_ret
     exact⟨Says.no fun h=>by have:=h.2.2;omega,c.trans a⟩
 ·go_enter func237,ntmps237
  go_wp2
  go_ret
  exact⟨Says.no fun h=>by have:=h.1;omega,c⟩
