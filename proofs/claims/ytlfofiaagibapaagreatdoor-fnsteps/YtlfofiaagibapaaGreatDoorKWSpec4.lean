import Derived.Test.YtlfofiaagibapaaGreatDoorKWImpl3
set_option maxRecDepth 100000
set_option maxHeartbeats 25600000
namespace Go.Proofs.YtlfofiaagibapaaGreatDoor
open Go.RowKit Go.Proofs.Tryz
theorem u_(w:NN)(s:Xq)(B E:NM)(F J:Nat)(n:Int)(l:s.Fits)(U:0<=n/\n<=20)(K:Strs w B s.asks)(L:lm w E s.cases)(V:s.fin=false)(W:vJ s n):Calls prog 119 #[.agg #[.slice B s.asks.length F,.a s.on,.slice E s.cases.length J,.a s.els,.a s.fall,.bool s.fin,.bool s.bad,.string s.give],.a n] w
   λe w'=>Says e (vK s n)/\K_ w w':=by
 rw[V];obtain⟨a4,a5⟩:=U;have X:=l.asks;have Y:=l.cases;have Z:=l.give;unfold maxLen at X Y Z;have M:=tQ s.give;have N:=Kz M;clear M;obtain⟨a0,O,a6,P,a7,⟨a8,a9⟩,⟨b0,b1⟩,Q⟩:=W;have b2:=N.o.2 O;have HN:=Kz P;rw[a0];have G:K_ w (w.alloc (.cells #[.slice B s.asks.length F,.a s.on,.slice E s.cases.length J,.a s.els,.a s.fall,.bool false,.bool false,.string s.give] 128)):=ah _ _;clear O P N;have b3:s.els<=n-1:=E5;have b4:s.fall<=n-1:=E5;have R:=Kz Q;clear Q;go_enter func119,ntmps119
 go_wp2_with fail
 refine (lV _ B F s.asks l.asks l.eQ (K.kept G)).mono ?_;rintro e w1 ⟨S,C⟩;have d:=G.trans C;rcases S.cases with⟨rfl,a1⟩|⟨rfl,a2⟩
 .clear a1 S;obtain⟨b5,b6⟩:=C.rules;have a3:=C.size;simp only[MZ] at a3;clear G C;have T:=L.kept d;clear L K;by_cases D:s.on=0
  .have ho:(s.on != 0)=false:=by rw[D];rfl
   clear D;go_wp2
   go_loop [5] (λm=>∃k:Nat,k<=s.cases.length/\m=.a k/\∀j,j<k->eD s n j) (λm=>s.cases.length-(intOf m).toNat)
   case atStart=>exact⟨0,Ml _,rfl,λj p=>aO p⟩
   case round=>
    obtain⟨k,hk,rfl,r⟩:=hrel;have t:=Kz r;clear r;by_cases a:k<s.cases.length
    .obtain⟨b,o,rfl,hb,f⟩:=T k a;have v:(s.cases.getD k bU.zero).text.size<=maxLen:=(l.dH _ (by simp[List.getD,a])).1;obtain⟨c,q⟩:=aj (s.cases.getD k bU.zero);rw[<-q] at f v;have i:=Kz q;clear q;unfold maxLen at v;have H:=f 0 _ rfl;have c1:=f 1 _ rfl;simp only[Ng] at H;clear f;by_cases d1:(c.text.size:Int)<=200
     .by_cases d2:0<=c.goto
      .cases x:decide (c.goto<=n-1)
       .have I:n-1<c.goto:=by simpa using x
        go_wp2
        go_ret
        exact⟨Says.no λh=>by have:=h k a;unfold eD at this;rw[<-i.o] at this;obtain⟨y,z,A⟩:=this;omega,d⟩
       .have I:c.goto<=n-1:=by simpa using x
        go_wp2
        go_round
        case rel=>
         refine⟨k+1,E5,F3,λj p=>?_⟩;by_cases e:j=k
         .subst e;unfold eD;rw[<-i.o];exact⟨E5,E5,E5⟩
         .exact bg t j E5
        case measure=>simp[intOf];omega
      .go_wp2
       go_ret
       exact⟨Says.no λh=>by have:=h k a;unfold eD at this;rw[<-i.o] at this;obtain⟨y,z,A⟩:=this;omega,d⟩
     .go_wp2
      go_ret
      exact⟨Says.no λh=>by have:=h k a;unfold eD at this;rw[<-i.o] at this;obtain⟨y,z,A⟩:=this;omega,d⟩
    .go_wp2
     go_ret
     exact⟨Says.yes λj p=>bg t j E5,d⟩
  .have ho:(s.on != 0)=true:=bne_iff_ne.2 D;have o1:0<=s.on:=by have:=R.o;omega
   have o3:s.on<=(s.asks.length:Int)-1:=by have:=R.o;omega
   clear D;go_wp2
   go_loop [5] (λm=>∃k:Nat,k<=s.cases.length/\m=.a k/\∀j,j<k->eD s n j) (λm=>s.cases.length-(intOf m).toNat)
   case atStart=>exact⟨0,Ml _,rfl,λj p=>aO p⟩
   case round=>
    obtain⟨k,hk,rfl,r⟩:=hrel;have t:=Kz r;clear r;by_cases a:k<s.cases.length
    .obtain⟨b,o,rfl,hb,f⟩:=T k a;have v:(s.cases.getD k bU.zero).text.size<=maxLen:=(l.dH _ (by simp[List.getD,a])).1;obtain⟨c,q⟩:=aj (s.cases.getD k bU.zero);rw[<-q] at f v;have i:=Kz q;clear q;unfold maxLen at v;have H:=f 0 _ rfl;have c1:=f 1 _ rfl;simp only[Ng] at H;clear f;by_cases d1:(c.text.size:Int)<=200
     .by_cases d2:0<=c.goto
      .cases x:decide (c.goto<=n-1)
       .have I:n-1<c.goto:=by simpa using x
        go_wp2
        go_ret
        exact⟨Says.no λh=>by have:=h k a;unfold eD at this;rw[<-i.o] at this;obtain⟨y,z,A⟩:=this;omega,d⟩
       .have I:c.goto<=n-1:=by simpa using x
        go_wp2
        go_round
        case rel=>
         refine⟨k+1,E5,F3,λj p=>?_⟩;by_cases e:j=k
         .subst e;unfold eD;rw[<-i.o];exact⟨E5,E5,E5⟩
         .exact bg t j E5
        case measure=>simp[intOf];omega
      .go_wp2
       go_ret
       exact⟨Says.no λh=>by have:=h k a;unfold eD at this;rw[<-i.o] at this;obtain⟨y,z,A⟩:=this;omega,d⟩
     .go_wp2
      go_ret
      exact⟨Says.no λh=>by have:=h k a;unfold eD at this;rw[<-i.o] at this;obtain⟨y,z,A⟩:=this;omega,d⟩
    .go_wp2
     go_ret
     exact⟨Says.yes λj p=>bg t j E5,d⟩
 .exact NB HN.o a2
