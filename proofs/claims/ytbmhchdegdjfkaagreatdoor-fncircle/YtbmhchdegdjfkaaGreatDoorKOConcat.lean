import Derived.Test.YtbmhchdegdjfkaaGreatDoorKFFmt
import Derived.Test.YtbmhchdegdjfkaaGreatDoorKReadB
import Derived.Lib.AppendZeros
set_option maxRecDepth 100000
set_option maxHeartbeats 25600000
namespace Go.Proofs.YtbmhchdegdjfkaaGreatDoor
open Go.RowKit Go.Proofs.Tryz
theorem vk(w:LP)(n a b:Int)(c:a<=n)(h2:n<=b):
  Calls prog 83 #[.int .i64 n,.int .i64 a,.int .i64 b] w fun e w'=>e= .returned (.bool true)/\w'=w:=by
 go_enter func83,ntmps83
 go_wp2
 go_ret
 exact⟨rfl,rfl⟩
theorem yS(w:LP)(s:Xj)(b c:LM)(f i:Nat)(n:Int)(d:s.Fits)(l:0<=n/\n<=20)
  (m:Strs w b s.asks) (p:kv w c s.cases):
  Calls prog 122 #[.agg #[.slice b s.asks.length f,.int .i64 s.on,.slice c s.cases.length i,.int .i64 s.els,.int .i64 s.fall,.bool s.fin,.bool s.bad,.string s.give],.int .i64 n] w
   fun e w'=>Says e (ku s n)/\K_ w w':=by
 cases a:s.fin
 ·rw[<-a];by_cases j:uf s n
  ·refine (tJ w s b c f i n d l m p a j).mono ?_;rintro e w' ⟨h,k⟩;exact⟨h.congr ⟨fun h=>⟨fun e=>(by rw[a] at e;cases e),fun _=>⟨j,h⟩⟩,fun h=>(h.2 a).2⟩,k⟩
  ·refine (vX w s b c f i n d l m p a j).mono ?_;rintro e w' ⟨rfl,k⟩;exact⟨Says.no fun h=>j (h.2 a).1,k⟩
 ·refine (yT w s.asks.length s.on s.cases.length s.els s.fall s.bad s.give b c f i n d.asks d.cases d.give).mono ?_;rintro e w' ⟨h,k⟩;exact⟨h.congr ⟨fun h=>⟨fun _=>h,fun e=>(by rw[a] at e;cases e)⟩,fun h=>h.1 a⟩,k⟩
theorem eZ(w:LP)(cost:Int)(a:LM)(i:Nat)(l:List Xj)(H:l.length<=maxLen)(I:∀s∈l,s.Fits)(J:Steps w a l):
  Calls prog 82 #[.agg #[.int .i64 cost,.slice a l.length i]] w fun e w'=>Says e (fU ⟨cost,l⟩)/\K_ w w':=by
 unfold maxLen at H;have d:K_ w (w.alloc (.cells #[.int .i64 cost,.slice a l.length i] 77)):=ag _ _;by_cases K:1<=cost
 ·by_cases L:cost<=20
  ·by_cases a3:(1:Int)<=l.length
   ·by_cases a4:(l.length:Int)<=20
    ·go_enter func82,ntmps82
     go_wp2_with (go_at_call 83;refine (vk _ _ _ _ (by omega) (by omega)).mono ?_;rintro e w' ⟨rfl,rfl⟩)
     go_loopw [4] (fun m wr=>∃k:Nat,k<=l.length/\m= .int .i64 k/\K_ (w.alloc (.cells #[.int .i64 cost,.slice a l.length i] 77)) wr/\∀j,j<k->ku (l.getD j Xj.zero) l.length) (fun m _=>l.length-(intOf m).toNat)
     case atStart=>exact⟨0,JR _,rfl,K_.refl _,fun j n=>aT n⟩
     case round=>
      obtain⟨k,hk,rfl,f,x⟩:=hrel;have y:=Kz x;clear x;obtain⟨M,N⟩:=f.rules;have O:=f.size;simp only[KR] at O;by_cases p:k<l.length
      ·obtain⟨b,o,cs,rfl,hb,c,P,Q,R,S,rfl,q,r,a1⟩:=(J.kept d).kept f k p;have A:=I (l.getD k Xj.zero) (by simp[List.getD,p]);obtain⟨s,t⟩:=aj (l.getD k Xj.zero);rw[<-t] at c A q r;have B:=Kz t;clear t;have C:=c 0 _ rfl;have T:=c 1 _ rfl;have U:=c 2 _ rfl;have V:=c 3 _ rfl;have W:=c 4 _ rfl;have X:=c 5 _ rfl;have Y:=c 6 _ rfl;have Z:=c 7 _ rfl;simp only[La] at C;clear c;go_wp2_with fail
       refine (yS _ s P R Q S _ A ⟨by omega,by omega⟩ q r).mono ?_;rintro e w1 ⟨v,D⟩;have E:=f.trans D;clear C T U V W X Y Z q r f D M N;rcases v.cases with⟨rfl,F⟩|⟨rfl,G⟩
       ·have a0:=Kz F;clear F v;go_wp2
        go_roundw
        case rel=>
         refine⟨k+1,by omega,by go_num,E,fun j n=>?_⟩;by_cases e:j=k
         ·subst e;rw[<-B.o];exact a0.o
         ·exact a_ y j (by omega)
        case measure=>simp[intOf];omega
       ·have HN:=Kz G;clear G v;go_wp2
        go_ret
        exact⟨Says.no fun h=>HN.o (by rw[B.o];exact h.2.2 k p),d.trans E⟩
      ·go_wp2
       go_ret
       exact⟨Says.yes ⟨⟨K,L⟩,⟨by show 1<=l.length;omega,by show l.length<=20;omega⟩,fun j (n:j<l.length)=>a_ y j (by omega)⟩,d.trans f⟩
    ·go_enter func82,ntmps82
     go_wp2
     go_ret
     exact⟨Says.no fun h=>by have:=h.2.1.2;simp at this;omega,d⟩
   ·go_enter func82,ntmps82
    go_wp2
    go_ret
    exact⟨Says.no fun h=>by have:=h.2.1.1;simp at this;omega,d⟩
  ·go_enter func82,ntmps82
   go_wp2
   go_ret
   exact⟨Says.no fun h=>by have:=h.1.2;simp at this;omega,d⟩
 ·go_enter func82,ntmps82
  go_wp2
  go_ret
  exact⟨Says.no fun h=>by have:=h.1.1;simp at this;omega,d⟩
def eO(l:List LK):Prop:=1<=l.length/\l.length<=10/\qJ l
theorem Ic(w:LP)(n a b:Int)(h:n<a\/b<n):
  Calls prog 83 #[.int .i64 n,.int .i64 a,.int .i64 b] w fun e w'=>e= .returned (.bool false)/\w'=w:=by
 by_cases d:a<=n
 ·have f:¬n<=b:=by omega
  go_enter func83,ntmps83
  go_wp2
  go_ret
  exact⟨rfl,rfl⟩
 ·go_enter func83,ntmps83
  go_wp2
  go_ret
  exact⟨rfl,rfl⟩
theorem iQ(w:LP)(a:LM)(d:Nat)(l:List LK)(k:l.length<=maxLen)(m:∀s∈l,s.size<=maxLen)(n:Strs w a l):
  Calls prog 47 #[.slice a l.length d] w fun e w'=>Says e (eO l)/\K_ w w':=by
 by_cases h:1<=l.length/\l.length<=10
 ·go_enter func47,ntmps47
  go_wp2_with (go_at_call 83;refine (vk _ _ _ _ (by omega) (by omega)).mono ?_;rintro e w' ⟨rfl,rfl⟩)
  refine (kP _ a d l k m n).mono ?_;rintro e w1 ⟨b,f⟩;rcases b.cases with⟨rfl,i⟩|⟨rfl,j⟩
  ·have c:=Kz i;clear i b;go_wp2
   go_ret
   exact⟨Says.yes ⟨h.1,h.2,c.o⟩,f⟩
  ·have c:=Kz j;clear j b;go_wp2
   go_ret
   exact⟨Says.no fun g=>c.o g.2.2,f⟩
 ·go_enter func47,ntmps47
  go_wp2_with (go_at_call 83;refine (Ic _ _ _ _ (by omega)).mono ?_;rintro e w' ⟨rfl,rfl⟩)
  go_ret
  exact⟨Says.no fun g=>h ⟨g.1,g.2.1⟩,K_.refl _⟩
theorem uG(w:LP)(a:LM)(p:Nat)(l:List LK)(B:l.length<=maxLen)(T:l.length<=p)(I:∀s∈l,s.size<=maxLen)(C:Strs w a l):
  Calls prog 99 #[.slice a l.length p] w fun e w'=>Says e (eO l)/\K_ w w':=by
 have J:=B;unfold maxLen at J;by_cases K:(l.length:Int)<1
 ·go_enter func99,ntmps99
  go_wp2
  go_ret
  exact⟨Says.no fun g=>by have:=g.1;omega,K_.refl _⟩
 ·by_cases L:(10:Int)<l.length
  ·go_enter func99,ntmps99
   go_wp2
   go_ret
   exact⟨Says.no fun g=>by have:=g.2.1;omega,K_.refl _⟩
  ·have M:decide ((l.length:Int)<1)=false:=by simpa using K
   have N:decide ((10:Int)<l.length)=false:=by simpa using L
   go_enter func99,ntmps99
   go_wp2
   clear M N;go_loopw [15] (fun i wr=>∃k:Nat,k<=l.length/\i= .int .i64 k/\K_ w wr/\∀j,j<k->z_ l j) (fun i _=>l.length-(intOf i).toNat)
   case atStart=>exact⟨0,JR _,rfl,K_.refl _,fun j v=>aT v⟩
   case round=>
    obtain⟨k,U,rfl,d,D⟩:=hrel;have E:=Kz D;clear D;by_cases q:k<l.length
    ·obtain⟨b,o,rfl,O,F⟩:=C.kept d k q;have G:(l.getD k ByteArray.empty).size<=maxLen:=I _ (by simp[List.getD,q]);obtain⟨H,x⟩:=aj (l.getD k ByteArray.empty);rw[<-x] at F G;have r:=Kz x;clear x;go_wp2_with fail
     refine (lG _ H G).mono ?_;rintro e w1 ⟨c,y⟩;have t:=d.trans y;have A:=C.kept t;clear F O;rcases c.cases with⟨rfl,f⟩|⟨rfl,h⟩
     ·have P:=Kz f;clear f c d y;have V:k<=p:=by omega
      go_wp2_with fail
      refine (oW _ _ p k l H B (by omega) A).mono ?_;rintro e w2 ⟨c,rfl⟩;rcases c.cases with⟨rfl,f⟩|⟨rfl,h⟩
      ·have m:=Kz f;clear f c A;go_wp2
       go_ret
       exact⟨Says.no fun n=>by obtain⟨i,Q,e⟩:=m.o;exact (n.2.2 k q).2 i Q (by rw[e,r.o]),t⟩
      ·have m:=Kz h;clear h c A;go_wp2
       go_roundw
       case rel=>
        refine⟨k+1,by omega,by go_num,t,fun j v=>?_⟩;by_cases e:j=k
        ·subst e;exact⟨by rw[<-r.o];exact P.o,fun R S n=>m.o ⟨R,S,by rw[n,r.o]⟩⟩
        ·exact a_ E j (by omega)
       case measure=>simp[intOf];omega
     ·have m:=Kz h;clear h c d y;go_wp2
      go_ret
      exact⟨Says.no fun n=>m.o (by rw[r.o];exact (n.2.2 k q).1),t⟩
    ·go_wp2
     go_ret
     exact⟨Says.yes ⟨by omega,by omega,fun j v=>a_ E j (by omega)⟩,d⟩
theorem Tryz.Ju :prog.underlying 3=some (.int .i64):=by kernel_rfl
