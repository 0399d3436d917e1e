import Derived.Test.YtlfofiaagibapaaGreatDoorKWImpl3
import Derived.Test.YtlfofiaagibapaaGreatDoorKWGo4
set_option maxRecDepth 100000
set_option maxHeartbeats 25600000
namespace Go.Proofs.YtlfofiaagibapaaGreatDoor
open Go.RowKit Go.Proofs.Tryz
theorem sH(w:NN)(s:Xq)(c d:NM)(f i:Nat)(n:Int)(x:s.Fits)(F:1<=n/\n<=20)(G:Strs w c s.asks)(H:lm w d s.cases)(I:s.asks.length<=f):Calls prog 264 #[.agg #[.slice c s.asks.length f,.a s.on,.slice d s.cases.length i,.a s.els,.a s.fall,.bool s.fin,.bool s.bad,.string s.give],.a n] w λe w'=>Says e (Ff s n)/\K_ w w':=by
 have j:K_ w (w.alloc (.cells #[.slice c s.asks.length f,.a s.on,.slice d s.cases.length i,.a s.els,.a s.fall,.bool s.fin,.bool s.bad,.string s.give] 230)):=ah _ _;have y:=tQ s.give;have z:=Kz y;clear y;cases k:s.bad
 .rw[k] at j;cases A:s.give.toList.isEmpty
  .go_enter func264,ntmps264
   go_wp2
   go_ret
   exact⟨Says.no λh=>by have:=z.o.2 h.1.2.1;simp[this] at A,j⟩
  .have J:Hid (s.give.size=0):=z.o.1 (List.isEmpty_iff.1 A);go_enter func264,ntmps264
   go_wp2_with fail
   have q:=yO (w.alloc (.cells #[.slice c s.asks.length f,.a s.on,.slice d s.cases.length i,.a s.els,.a s.fall,.bool s.fin,.bool s.bad,.string s.give] 230)) s c d f i x (G.kept (ah _ _)) I;rw[k] at q;refine q.mono ?_;clear q;rintro e B ⟨b,l⟩;have r:=j.trans l;rcases b.cases with⟨rfl,m⟩|⟨rfl,p⟩
   .have t:=Kz m;clear m b;let⟨C,D⟩:=l.rules;have K:=l.size;simp only[MZ] at K;clear j l;have M:w.heap.size<B.heap.size:=E5;go_wp2_with fail
    have v:=yL B s c d f i n x F (H.kept r);rw[k] at v;refine v.mono ?_;clear v;rintro e N ⟨b,L⟩;have E:=r.trans L;rcases b.cases with⟨rfl,m⟩|⟨rfl,p⟩
    .have a:=Kz m;clear m b C D;go_wp2
     go_ret
     exact⟨Says.yes ⟨⟨k,J.o,t.o.1,t.o.2.1,a.o.1,a.o.2.2.1,a.o.2.2.2,t.o.2.2⟩,a.o.2.1⟩,E⟩
    .have a:=Kz p;clear p b C D;go_wp2
     go_ret
     exact⟨Says.no λh=>a.o ⟨h.1.2.2.2.2.1,h.2,h.1.2.2.2.2.2.1,h.1.2.2.2.2.2.2.1⟩,E⟩
   .have a:=Kz p;clear p b j l;go_wp2
    go_ret
    exact⟨Says.no λh=>a.o ⟨h.1.2.2.1,h.1.2.2.2.1,h.1.2.2.2.2.2.2.2⟩,r⟩
 .go_enter func264,ntmps264
  go_wp2
  go_ret
  exact⟨Says.no λh=>by have:=h.1.1;simp[k] at this,ah _ _⟩
theorem yT(w:NN)(s:Xq)(a b:NM)(c d:Nat)(n:Int)(f:s.Fits):Calls prog 268 #[.agg #[.slice a s.asks.length c,.a s.on,.slice b s.cases.length d,.a s.els,.a s.fall,.bool s.fin,.bool s.bad,.string s.give],.a n] w λe w'=>Says e (Cz s)/\K_ w w':=by
 have h:K_ w (w.alloc (.cells #[.slice a s.asks.length c,.a s.on,.slice b s.cases.length d,.a s.els,.a s.fall,.bool s.fin,.bool s.bad,.string s.give] 232)):=ah _ _;go_enter func268,ntmps268
 go_wp2_with fail
 refine (rT _ s.asks.length s.on s.cases.length s.els s.fall s.fin s.bad s.give a b c d f.asks f.cases f.give).mono ?_;rintro e p ⟨⟨r,rfl,i⟩,j⟩;have l:=Kz i;have m:=h.trans j;clear i h j;go_wp2
 go_ret
 exact⟨⟨r,rfl,l.o⟩,m⟩
theorem Bh(w:NN)(s:Xq)(a b:NM)(c d:Nat)(n:Int)(f:s.Fits):Calls prog 270 #[.agg #[.slice a s.asks.length c,.a s.on,.slice b s.cases.length d,.a s.els,.a s.fall,.bool s.fin,.bool s.bad,.string s.give],.a n] w λe w'=>Says e (Cz s)/\K_ w w':=by
 have h:K_ w (w.alloc (.cells #[.slice a s.asks.length c,.a s.on,.slice b s.cases.length d,.a s.els,.a s.fall,.bool s.fin,.bool s.bad,.string s.give] 233)):=ah _ _;go_enter func270,ntmps270
 go_wp2_with fail
 refine (rT _ s.asks.length s.on s.cases.length s.els s.fall s.fin s.bad s.give a b c d f.asks f.cases f.give).mono ?_;rintro e p ⟨⟨r,rfl,i⟩,j⟩;have l:=Kz i;have m:=h.trans j;clear i h j;go_wp2
 go_ret
 exact⟨⟨r,rfl,l.o⟩,m⟩
theorem wW(w:NN)(s:Xq)(a b:NM)(c d:Nat):Calls prog 148 #[.agg #[.slice a s.asks.length c,.a s.on,.slice b s.cases.length d,.a s.els,.a s.fall,.bool false,.bool s.bad,.string s.give]] w λe w'=>e=.returned (.iface 230 (.agg #[.slice a s.asks.length c,.a s.on,.slice b s.cases.length d,.a s.els,.a s.fall,.bool false,.bool s.bad,.string s.give]))/\K_ w w':=by
 go_enter func148,ntmps148
 go_wp2
 go_ret
 exact⟨rfl,ah _ _⟩
theorem DC(w:NN)(s:Xq)(a b:NM)(c d:Nat):Calls prog 148 #[.agg #[.slice a s.asks.length c,.a s.on,.slice b s.cases.length d,.a s.els,.a s.fall,.bool true,.bool true,.string s.give]] w λe w'=>e=.returned (.iface 233 (.agg #[.slice a s.asks.length c,.a s.on,.slice b s.cases.length d,.a s.els,.a s.fall,.bool true,.bool true,.string s.give]))/\K_ w w':=by
 go_enter func148,ntmps148
 go_wp2
 go_ret
 exact⟨rfl,ah _ _⟩
theorem Cc(w:NN)(s:Xq)(a b:NM)(c d:Nat):Calls prog 148 #[.agg #[.slice a s.asks.length c,.a s.on,.slice b s.cases.length d,.a s.els,.a s.fall,.bool true,.bool false,.string s.give]] w λe w'=>e=.returned (.iface 232 (.agg #[.slice a s.asks.length c,.a s.on,.slice b s.cases.length d,.a s.els,.a s.fall,.bool true,.bool false,.string s.give]))/\K_ w w':=by
 go_enter func148,ntmps148
 go_wp2
 go_ret
 exact⟨rfl,ah _ _⟩
theorem meth_ask (vs : Array Value) (W : World) : (method 418 230 (.agg vs) "loop.example/kilnweb/impl.sound").run Tryz.prog W = .ok (264, .agg vs) W := by kernel_rfl
theorem meth_bad (vs : Array Value) (W : World) : (method 418 233 (.agg vs) "loop.example/kilnweb/impl.sound").run Tryz.prog W = .ok (270, .agg vs) W := by kernel_rfl
theorem meth_good (vs : Array Value) (W : World) : (method 418 232 (.agg vs) "loop.example/kilnweb/impl.sound").run Tryz.prog W = .ok (268, .agg vs) W := by kernel_rfl
theorem qI(w:NN)(cost:Int)(a:NM)(U:Nat)(l:List Xq)(hl:l.length<=maxLen)(hs:∀s∈l,s.Fits)(hS:Steps w a l):Calls prog 140 #[.agg #[.a cost,.slice a l.length U]] w λe w'=>Says e (gQ ⟨cost,l⟩)/\K_ w w':=by
 unfold maxLen at hl;have i:K_ w (w.alloc (.cells #[.a cost,.slice a l.length U] 31)):=ah _ _;by_cases a1:1<=cost
 .by_cases a7:cost<=20
  .by_cases a8:(1:Int)<=l.length
   .by_cases a4:(l.length:Int)<=20
    .have e1:decide (cost<1)=false:=F6;have e2:decide (20<cost)=false:=F6;have e3:decide ((l.length:Int)<1)=false:=F6;have e4:decide (20<(l.length:Int))=false:=F6;go_enter func140,ntmps140
     go_wp2
     clear e1 e2 e3 e4;go_loopw [28] (λV wr=>∃k:Nat,k<=l.length/\V=.a k/\K_ (w.alloc (.cells #[.a cost,.slice a l.length U] 31)) wr/\∀j,j<k->ll (l.getD j Xq.zero) l.length) (λV _=>l.length-(intOf V).toNat)
     case atStart=>exact⟨0,Ml _,rfl,K_.refl _,λj C=>aO C⟩
     case round=>
      obtain⟨k,hk,rfl,d,hg⟩:=hrel;have P:=Kz hg;clear hg;have a9:=d.size;simp only[MZ] at a9;by_cases D:k<l.length
      .obtain⟨b,o,cs,rfl,hb,f,m,n,p,q,rfl,E,F,a5⟩:=(hS.kept i).kept d k D;have Q:=hs (l.getD k Xq.zero) (by simp[List.getD,D]);let⟨s,X⟩:=aj (l.getD k Xq.zero);rw[<-X] at f Q E F a5;have A:=Kz X;clear X;have R:=f 0 _ rfl;have Y:=f 1 _ rfl;have Z:=f 2 _ rfl;have a0:=f 3 _ rfl;have c4:=f 4 _ rfl;have B:=f 5 _ rfl;have G:=f 6 _ rfl;have c7:=f 7 _ rfl;simp only[Ng] at R;clear f;let⟨a2,a3⟩:=d.rules;have z0:w.heap.size<wr.heap.size:=E5;have z1:w.heap.size<wr.heap.size+1:=E5;cases c:s.fin
       .rw[c] at B;have r:∀W,K_ wr W->Calls prog 264 #[.agg #[.slice m s.asks.length n,.a s.on,.slice p s.cases.length q,.a s.els,.a s.fall,.bool false,.bool s.bad,.string s.give],.a l.length] W λe w'=>Says e (Ff s l.length)/\K_ W w':=λW S=>by
         have h:=sH W s m p n q l.length Q ⟨a8,a4⟩ (E.kept S) (F.kept S) a5;rw[c] at h;exact h
        have H:=Kz r;clear r;have I:=meth_ask;go_wp2
        go_region_with (first|(go_at_call 148;refine (wW _ s m p n q).mono ?_;rintro e J ⟨rfl,t⟩;let⟨K,L⟩:=t.rules;have a6:K_ wr J:=K_.trans I6 t)|(go_at_call 264;refine (bg H _ I5).mono ?_;rintro e M ⟨⟨N,rfl,v⟩,O⟩;have x:K_ wr M:=K_.trans I5 O;have y:=Kz v;clear v))
        all_goals
         clear a2 a3 K L I R Y Z a0 c4 B G c7 E F;cases N
         .go_wp2
          go_ret
          exact⟨Says.no λh=>(by have z:=h.2.2 k D;rw[<-A.o] at z;have:=y.o.2 (z.2 c);cases this),i.trans (by repeat (first|apply K_.drew|exact d.trans x))⟩
         .go_wp2
          go_roundw
          case rel=>
           refine⟨k+1,E5,F3,by repeat (first|apply K_.drew|exact d.trans x),λj C=>?_⟩;by_cases e:j=k
           .subst e;rw[<-A.o];exact⟨λe=>(by rw[c] at e;cases e),λ_=>y.o.1 rfl⟩
           .exact bg P j E5
          case measure=>simp[intOf];omega
       .cases T:s.bad
        .rw[c] at B;rw[T] at G;have r:∀W,K_ wr W->Calls prog 268 #[.agg #[.slice m s.asks.length n,.a s.on,.slice p s.cases.length q,.a s.els,.a s.fall,.bool true,.bool false,.string s.give],.a l.length] W λe w'=>Says e (Cz s)/\K_ W w':=λW S=>by
          have h:=yT W s m p n q l.length Q;rw[c,T] at h;exact h
         have H:=Kz r;clear r;have I:=meth_good;go_wp2
         go_region_with (first|(go_at_call 148;refine (Cc _ s m p n q).mono ?_;rintro e J ⟨rfl,t⟩;let⟨K,L⟩:=t.rules;have a6:K_ wr J:=K_.trans I6 t)|(go_at_call 268;refine (bg H _ I5).mono ?_;rintro e M ⟨⟨N,rfl,v⟩,O⟩;have x:K_ wr M:=K_.trans I5 O;have y:=Kz v;clear v))
         all_goals
          clear a2 a3 K L I R Y Z a0 c4 B G c7 E F;cases N
          .go_wp2
           go_ret
           exact⟨Says.no λh=>(by have z:=h.2.2 k D;rw[<-A.o] at z;have:=y.o.2 (z.1 c);cases this),i.trans (by repeat (first|apply K_.drew|exact d.trans x))⟩
          .go_wp2
           go_roundw
           case rel=>
            refine⟨k+1,E5,F3,by repeat (first|apply K_.drew|exact d.trans x),λj C=>?_⟩;by_cases e:j=k
            .subst e;rw[<-A.o];exact⟨λ_=>y.o.1 rfl,λe=>(by rw[c] at e;cases e)⟩
            .exact bg P j E5
           case measure=>simp[intOf];omega
        .rw[c] at B;rw[T] at G;have r:∀W,K_ wr W->Calls prog 270 #[.agg #[.slice m s.asks.length n,.a s.on,.slice p s.cases.length q,.a s.els,.a s.fall,.bool true,.bool true,.string s.give],.a l.length] W λe w'=>Says e (Cz s)/\K_ W w':=λW S=>by
          have h:=Bh W s m p n q l.length Q;rw[c,T] at h;exact h
         have H:=Kz r;clear r;have I:=meth_bad;go_wp2
         go_region_with (first|(go_at_call 148;refine (DC _ s m p n q).mono ?_;rintro e J ⟨rfl,t⟩;let⟨K,L⟩:=t.rules;have a6:K_ wr J:=K_.trans I6 t)|(go_at_call 270;refine (bg H _ I5).mono ?_;rintro e M ⟨⟨N,rfl,v⟩,O⟩;have x:K_ wr M:=K_.trans I5 O;have y:=Kz v;clear v))
         all_goals
          clear a2 a3 K L I R Y Z a0 c4 B G c7 E F;cases N
          .go_wp2
           go_ret
           exact⟨Says.no λh=>(by have z:=h.2.2 k D;rw[<-A.o] at z;have:=y.o.2 (z.1 c);cases this),i.trans (by repeat (first|apply K_.drew|exact d.trans x))⟩
          .go_wp2
           go_roundw
           case rel=>
            refine⟨k+1,E5,F3,by repeat (first|apply K_.drew|exact d.trans x),λj C=>?_⟩;by_cases e:j=k
            .subst e;rw[<-A.o];exact⟨λ_=>y.o.1 rfl,λe=>(by rw[c] at e;cases e)⟩
            .exact bg P j E5
           case measure=>simp[intOf];omega
      .go_wp2
       go_ret
       exact⟨Says.yes ⟨⟨a1,a7⟩,⟨by show 1<=l.length;omega,by show l.length<=20;omega⟩,λj (C:j<l.length)=>bg P j E5⟩,i.trans d⟩
    .go_enter func140,ntmps140
     go_wp2
     go_ret
     exact⟨Says.no λh=>by have:=h.2.1.2;simp at this;omega,i⟩
   .go_enter func140,ntmps140
    go_wp2
    go_ret
    exact⟨Says.no λh=>by have:=h.2.1.1;simp at this;omega,i⟩
  .go_enter func140,ntmps140
   go_wp2
   go_ret
   exact⟨Says.no λh=>by have:=h.1.2;simp at this;omega,i⟩
 .go_enter func140,ntmps140
  go_wp2
  go_ret
  exact⟨Says.no λh=>by have:=h.1.1;simp at this;omega,i⟩
def jK(l:List Xq)(at':Int):Xq:=l.getD at'.toNat Xq.zero
def nZ(cost:Int)(l:List Xq)(at':Int):Prop:=gQ ⟨cost,l⟩/\(0<=at'/\at' < l.length)/\(jK l at').fin=false
def kX(cost:Int)(l:List Xq)(at':Int)(ans:List Xz)(g:b_):Prop:=(¬nZ cost l at'/\g=b_.none)\/(nZ cost l at'/\Followed (jK l at') ans g)
theorem kX.unique{cost:Int}{l:List Xq}{c:Int}{ans:List Xz}{g d:b_}(h:kX cost l c ans g)(e:kX cost l c ans d):g=d:=by
 rcases h with⟨a,rfl⟩|⟨a,f⟩<;>rcases e with⟨b,rfl⟩|⟨b,i⟩
 .rfl
 .exact NB b a
 .exact NB a b
 .exact f.unique i
