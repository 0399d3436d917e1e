import Derived.Test.YtjbipapbckajnaaGreatDoorKFFmt
import Derived.Deep.RegionWith
set_option maxRecDepth 100000
set_option maxHeartbeats 25600000
namespace Go.Proofs.YtjbipapbckajnaaGreatDoor
open Go.RowKit Go.Proofs.Tryz
def MM(s:Xj)(n:Int):Prop:=s.cases.length<=5/\wD s n/\(0<=s.els/\s.els<n)/\(-1<=s.fall/\s.fall<n)
theorem zJ(w:Pv)(s:Xj)(p i:Pt)(q r:Nat)(n:Int)(z:s.Fits)(K:1<=n/\n<=20)(L:lI w i s.cases):
  Calls prog 255 #[.agg #[.slice p s.asks.length q,.a s.on,.slice i s.cases.length r,.a s.els,.a s.fall,.bool s.fin,.bool s.bad,.string s.give],.a n] w λe w'=>Says e (MM s n)/\K_ w w':=by
 have M:=z.cases;unfold maxLen at M;obtain⟨S,T⟩:=K;have c:K_ w (w.alloc (.cells #[.slice p s.asks.length q,.a s.on,.slice i s.cases.length r,.a s.els,.a s.fall,.bool s.fin,.bool s.bad,.string s.give] 238)):=ah _ _;by_cases U:(s.cases.length:Int)<=5
 .go_enter func255,ntmps255
  go_wp2
  go_loopw [16] (λt wr=>∃k:Nat,k<=s.cases.length/\t= .a k/\K_ (w.alloc (.cells #[.slice p s.asks.length q,.a s.on,.slice i s.cases.length r,.a s.els,.a s.fall,.bool s.fin,.bool s.bad,.string s.give] 238)) wr/\∀j,j<k->eH s n j) (λt _=>s.cases.length-(intOf t).toNat)
  case atStart=>exact⟨0,NS _,rfl,K_.refl _,λj v=>aT v⟩
  case round=>
   obtain⟨k,V,rfl,a,A⟩:=hrel;have x:=Kz A;clear A;have N:=a.size;simp only[OC] at N;by_cases d:k<s.cases.length
   .obtain⟨b,o,rfl,W,l⟩:=(L.kept c).kept a k d;have B:(s.cases.getD k bS.zero).text.size<=maxLen:=(z.dG _ (by simp[List.getD,d])).1;obtain⟨f,y⟩:=ai (s.cases.getD k bS.zero);rw[<-y] at l B;have m:=Kz y;clear y;unfold maxLen at B;have O:=l 0 _ rfl;have X:=l 1 _ rfl;simp only[OJ] at O;clear l;by_cases Y:(f.text.size:Int)<=200
    .by_cases Z:0<=f.goto
     .cases C:decide (f.goto<n)
      .have P:n<=f.goto:=by simpa using C
       go_wp2
       go_ret
       exact⟨Says.no λh=>by have:=h.2.1 k d;unfold eH at this;rw[<-m.o] at this;obtain⟨D,E,F⟩:=this;omega,c.trans (a.alloc _)⟩
      .have P:f.goto<n:=by simpa using C
       go_wp2
       go_roundw
       case rel=>
        refine⟨k+1,A7,C8,a.alloc _,λj v=>?_⟩;by_cases e:j=k
        .subst e;unfold eH;rw[<-m.o];exact⟨A7,A7,A7⟩
        .exact bC x j A7
       case measure=>simp[intOf];omega
     .go_wp2
      go_ret
      exact⟨Says.no λh=>by have:=h.2.1 k d;unfold eH at this;rw[<-m.o] at this;obtain⟨D,E,F⟩:=this;omega,c.trans (a.alloc _)⟩
    .go_wp2
     go_ret
     exact⟨Says.no λh=>by have:=h.2.1 k d;unfold eH at this;rw[<-m.o] at this;obtain⟨D,E,F⟩:=this;omega,c.trans (a.alloc _)⟩
   .obtain⟨a0,a1⟩:=a.rules;have G:Hid (wD s n):=λj v=>bC x j A7
    clear x;by_cases b1:0<=s.els
    .cases H:decide (s.els<n)
     .have Q:n<=s.els:=by simpa using H
      go_wp2
      go_ret
      exact⟨Says.no λh=>by have:=h.2.2;omega,c.trans a⟩
     .have Q:s.els<n:=by simpa using H
      cases I:(s.fall == -1)
      .by_cases b4:0<=s.fall
       .cases J:decide (s.fall<n)
        .have R:n<=s.fall:=by simpa using J
         go_wp2
         go_ret
         exact⟨Says.no λh=>by have:=h.2.2;omega,c.trans a⟩
        .have R:s.fall<n:=by simpa using J
         go_wp2
         go_ret
         exact⟨Says.yes ⟨A7,G.out,⟨A7,A7⟩,⟨A7,A7⟩⟩,c.trans a⟩
       .go_wp2
        go_ret
        exact⟨Says.no λh=>by have:=h.2.2;simp at I;omega,c.trans a⟩
      .go_wp2
       go_ret
       exact⟨Says.yes ⟨A7,G.out,⟨A7,A7⟩,by simp at I;omega⟩,c.trans a⟩
    .go_wp2
     go_ret
     exact⟨Says.no λh=>by have:=h.2.2;omega,c.trans a⟩
 .go_enter func255,ntmps255
  go_wp2
  go_ret
  exact⟨Says.no λh=>by have:=h.1;omega,c⟩
theorem tJ(w:Pv)(s:Xj)(c d:Pt)(f i:Nat)(n:Int)(x:s.Fits)(F:1<=n/\n<=20)(G:Strs w c s.asks)(H:lI w d s.cases)(I:s.asks.length<=f):
  Calls prog 253 #[.agg #[.slice c s.asks.length f,.a s.on,.slice d s.cases.length i,.a s.els,.a s.fall,.bool s.fin,.bool s.bad,.string s.give],.a n] w λe w'=>Says e (Gj s n)/\K_ w w':=by
 have j:K_ w (w.alloc (.cells #[.slice c s.asks.length f,.a s.on,.slice d s.cases.length i,.a s.els,.a s.fall,.bool s.fin,.bool s.bad,.string s.give] 238)):=ah _ _;have y:=um s.give;have z:=Kz y;clear y;cases k:s.bad
 .rw[k] at j;cases A:s.give.toList.isEmpty
  .go_enter func253,ntmps253
   go_wp2
   go_ret
   exact⟨Says.no λh=>by have:=z.o.2 h.1.2.1;simp[this] at A,j⟩
  .have J:Hid (s.give.size=0):=z.o.1 (List.isEmpty_iff.1 A);go_enter func253,ntmps253
   go_wp2_with fail
   have q:=zN (w.alloc (.cells #[.slice c s.asks.length f,.a s.on,.slice d s.cases.length i,.a s.els,.a s.fall,.bool s.fin,.bool s.bad,.string s.give] 238)) s c d f i x (G.kept (ah _ _)) I;rw[k] at q;refine q.mono ?_;clear q;rintro e B ⟨b,l⟩;have r:=j.trans l;rcases b.cases with⟨rfl,m⟩|⟨rfl,p⟩
   .have t:=Kz m;clear m b;obtain⟨C,D⟩:=l.rules;have K:=l.size;simp only[OC] at K;clear j l;have M:w.heap.size<B.heap.size:=A7;go_wp2_with fail
    have v:=zJ B s c d f i n x F (H.kept r);rw[k] at v;refine v.mono ?_;clear v;rintro e N ⟨b,L⟩;have E:=r.trans L;rcases b.cases with⟨rfl,m⟩|⟨rfl,p⟩
    .have a:=Kz m;clear m b C D;go_wp2
     go_ret
     exact⟨Says.yes ⟨⟨k,J.o,t.o.1,t.o.2.1,a.o.1,a.o.2.2.1,a.o.2.2.2,t.o.2.2⟩,a.o.2.1⟩,E⟩
    .have a:=Kz p;clear p b C D;go_wp2
     go_ret
     exact⟨Says.no λh=>a.o ⟨h.1.2.2.2.2.1,h.2,h.1.2.2.2.2.2.1,h.1.2.2.2.2.2.2.1⟩,E⟩
   .have a:=Kz p;clear p b j l;go_wp2
    go_ret
    exact⟨Says.no λh=>a.o ⟨h.1.2.2.1,h.1.2.2.2.1,h.1.2.2.2.2.2.2.2⟩,r⟩
 .go_enter func253,ntmps253
  go_wp2
  go_ret
  exact⟨Says.no λh=>by have:=h.1.1;simp[k] at this,ah _ _⟩
theorem zT(w:Pv)(s:Xj)(a b:Pt)(c d:Nat)(n:Int)(f:s.Fits):
  Calls prog 257 #[.agg #[.slice a s.asks.length c,.a s.on,.slice b s.cases.length d,.a s.els,.a s.fall,.bool s.fin,.bool s.bad,.string s.give],.a n] w λe w'=>Says e (DJ s)/\K_ w w':=by
 have h:K_ w (w.alloc (.cells #[.slice a s.asks.length c,.a s.on,.slice b s.cases.length d,.a s.els,.a s.fall,.bool s.fin,.bool s.bad,.string s.give] 240)):=ah _ _;go_enter func257,ntmps257
 go_wp2_with fail
 refine (sK _ s.asks.length s.on s.cases.length s.els s.fall s.fin s.bad s.give a b c d f.asks f.cases f.give).mono ?_;rintro e p ⟨⟨r,rfl,i⟩,j⟩;have l:=Kz i;have m:=h.trans j;clear i h j;go_wp2
 go_ret
 exact⟨⟨r,rfl,l.o⟩,m⟩
theorem Cb(w:Pv)(s:Xj)(a b:Pt)(c d:Nat)(n:Int)(f:s.Fits):
  Calls prog 259 #[.agg #[.slice a s.asks.length c,.a s.on,.slice b s.cases.length d,.a s.els,.a s.fall,.bool s.fin,.bool s.bad,.string s.give],.a n] w λe w'=>Says e (DJ s)/\K_ w w':=by
 have h:K_ w (w.alloc (.cells #[.slice a s.asks.length c,.a s.on,.slice b s.cases.length d,.a s.els,.a s.fall,.bool s.fin,.bool s.bad,.string s.give] 241)):=ah _ _;go_enter func259,ntmps259
 go_wp2_with fail
 refine (sK _ s.asks.length s.on s.cases.length s.els s.fall s.fin s.bad s.give a b c d f.asks f.cases f.give).mono ?_;rintro e p ⟨⟨r,rfl,i⟩,j⟩;have l:=Kz i;have m:=h.trans j;clear i h j;go_wp2
 go_ret
 exact⟨⟨r,rfl,l.o⟩,m⟩
theorem rT(w:Pv)(s:Xj)(a b:Pt)(c d:Nat):
  Calls prog 149 #[.agg #[.slice a s.asks.length c,.a s.on,.slice b s.cases.length d,.a s.els,.a s.fall,.bool false,.bool s.bad,.string s.give]] w λe w'=>e= .returned (.iface 238 (.agg #[.slice a s.asks.length c,.a s.on,.slice b s.cases.length d,.a s.els,.a s.fall,.bool false,.bool s.bad,.string s.give]))/\K_ w w':=by
 go_enter func149,ntmps149
 go_wp2
 go_ret
 exact⟨rfl,ah _ _⟩
theorem EJ(w:Pv)(s:Xj)(a b:Pt)(c d:Nat):
  Calls prog 149 #[.agg #[.slice a s.asks.length c,.a s.on,.slice b s.cases.length d,.a s.els,.a s.fall,.bool true,.bool true,.string s.give]] w λe w'=>e= .returned (.iface 241 (.agg #[.slice a s.asks.length c,.a s.on,.slice b s.cases.length d,.a s.els,.a s.fall,.bool true,.bool true,.string s.give]))/\K_ w w':=by
 go_enter func149,ntmps149
 go_wp2
 go_ret
 exact⟨rfl,ah _ _⟩
theorem Dk(w:Pv)(s:Xj)(a b:Pt)(c d:Nat):
  Calls prog 149 #[.agg #[.slice a s.asks.length c,.a s.on,.slice b s.cases.length d,.a s.els,.a s.fall,.bool true,.bool false,.string s.give]] w λe w'=>e= .returned (.iface 240 (.agg #[.slice a s.asks.length c,.a s.on,.slice b s.cases.length d,.a s.els,.a s.fall,.bool true,.bool false,.string s.give]))/\K_ w w':=by
 go_enter func149,ntmps149
 go_wp2
 go_ret
 exact⟨rfl,ah _ _⟩
theorem meth_ask (vs : Array Value) (W : World) : (method 417 238 (.agg vs) "loop.example/kilnweb/impl.sound").run Tryz.prog W = .ok (253, .agg vs) W := by kernel_rfl
theorem meth_bad (vs : Array Value) (W : World) : (method 417 241 (.agg vs) "loop.example/kilnweb/impl.sound").run Tryz.prog W = .ok (259, .agg vs) W := by kernel_rfl
theorem meth_good (vs : Array Value) (W : World) : (method 417 240 (.agg vs) "loop.example/kilnweb/impl.sound").run Tryz.prog W = .ok (257, .agg vs) W := by kernel_rfl
theorem qX(w:Pv)(cost:Int)(a:Pt)(U:Nat)(l:List Xj)(hl:l.length<=maxLen)(hs:∀s∈l,s.Fits)(hS:Steps w a l):
  Calls prog 141 #[.agg #[.a cost,.slice a l.length U]] w λe w'=>Says e (gW ⟨cost,l⟩)/\K_ w w':=by
 unfold maxLen at hl;have i:K_ w (w.alloc (.cells #[.a cost,.slice a l.length U] 73)):=ah _ _;by_cases a1:1<=cost
 .by_cases a7:cost<=20
  .by_cases a8:(1:Int)<=l.length
   .by_cases a4:(l.length:Int)<=20
    .have e1:decide (cost<1)=false:=D6;have e2:decide (20<cost)=false:=D6;have e3:decide ((l.length:Int)<1)=false:=D6;have e4:decide (20<(l.length:Int))=false:=D6;go_enter func141,ntmps141
     go_wp2
     clear e1 e2 e3 e4;go_loopw [28] (λV wr=>∃k:Nat,k<=l.length/\V= .a k/\K_ (w.alloc (.cells #[.a cost,.slice a l.length U] 73)) wr/\∀j,j<k->lH (l.getD j Xj.zero) l.length) (λV _=>l.length-(intOf V).toNat)
     case atStart=>exact⟨0,NS _,rfl,K_.refl _,λj C=>aT C⟩
     case round=>
      obtain⟨k,hk,rfl,d,hg⟩:=hrel;have P:=Kz hg;clear hg;have a9:=d.size;simp only[OC] at a9;by_cases D:k<l.length
      .obtain⟨b,o,cs,rfl,hb,f,m,n,p,q,rfl,E,F,a5⟩:=(hS.kept i).kept d k D;have Q:=hs (l.getD k Xj.zero) (by simp[List.getD,D]);obtain⟨s,X⟩:=ai (l.getD k Xj.zero);rw[<-X] at f Q E F a5;have A:=Kz X;clear X;have R:=f 0 _ rfl;have Y:=f 1 _ rfl;have Z:=f 2 _ rfl;have a0:=f 3 _ rfl;have c4:=f 4 _ rfl;have B:=f 5 _ rfl;have G:=f 6 _ rfl;have c7:=f 7 _ rfl;simp only[OJ] at R;clear f;obtain⟨a2,a3⟩:=d.rules;have z0:w.heap.size<wr.heap.size:=A7;have z1:w.heap.size<wr.heap.size+1:=A7;cases c:s.fin
       .rw[c] at B;have r:∀W,K_ wr W->Calls prog 253 #[.agg #[.slice m s.asks.length n,.a s.on,.slice p s.cases.length q,.a s.els,.a s.fall,.bool false,.bool s.bad,.string s.give],.a l.length] W λe w'=>Says e (Gj s l.length)/\K_ W w':=λW S=>by
         have h:=tJ W s m p n q l.length Q ⟨a8,a4⟩ (E.kept S) (F.kept S) a5;rw[c] at h;exact h
        have H:=Kz r;clear r;have I:=meth_ask;go_wp2
        go_region_with (first | (go_at_call 149;refine (rT _ s m p n q).mono ?_;rintro e J ⟨rfl,t⟩;obtain⟨K,L⟩:=t.rules;have a6:K_ wr J:=K_.trans G7 t) | (go_at_call 253;refine (bC H _ F8).mono ?_;rintro e M ⟨⟨N,rfl,v⟩,O⟩;have x:K_ wr M:=K_.trans F8 O;have y:=Kz v;clear v))
        all_goals
         clear a2 a3 K L I R Y Z a0 c4 B G c7 E F;cases N
         .go_wp2
          go_ret
          exact⟨Says.no λh=>(by have z:=h.2.2 k D;rw[<-A.o] at z;have:=y.o.2 (z.2 c);cases this),i.trans (by repeat (first | apply K_.drew | exact d.trans x))⟩
         .go_wp2
          go_roundw
          case rel=>
           refine⟨k+1,A7,C8,by repeat (first | apply K_.drew | exact d.trans x),λj C=>?_⟩;by_cases e:j=k
           .subst e;rw[<-A.o];exact⟨λe=>(by rw[c] at e;cases e),λ_=>y.o.1 rfl⟩
           .exact bC P j A7
          case measure=>simp[intOf];omega
       .cases T:s.bad
        .rw[c] at B;rw[T] at G;have r:∀W,K_ wr W->Calls prog 257 #[.agg #[.slice m s.asks.length n,.a s.on,.slice p s.cases.length q,.a s.els,.a s.fall,.bool true,.bool false,.string s.give],.a l.length] W λe w'=>Says e (DJ s)/\K_ W w':=λW S=>by
          have h:=zT W s m p n q l.length Q;rw[c,T] at h;exact h
         have H:=Kz r;clear r;have I:=meth_good;go_wp2
         go_region_with (first | (go_at_call 149;refine (Dk _ s m p n q).mono ?_;rintro e J ⟨rfl,t⟩;obtain⟨K,L⟩:=t.rules;have a6:K_ wr J:=K_.trans G7 t) | (go_at_call 257;refine (bC H _ F8).mono ?_;rintro e M ⟨⟨N,rfl,v⟩,O⟩;have x:K_ wr M:=K_.trans F8 O;have y:=Kz v;clear v))
         all_goals
          clear a2 a3 K L I R Y Z a0 c4 B G c7 E F;cases N
          .go_wp2
           go_ret
           exact⟨Says.no λh=>(by have z:=h.2.2 k D;rw[<-A.o] at z;have:=y.o.2 (z.1 c);cases this),i.trans (by repeat (first | apply K_.drew | exact d.trans x))⟩
          .go_wp2
           go_roundw
           case rel=>
            refine⟨k+1,A7,C8,by repeat (first | apply K_.drew | exact d.trans x),λj C=>?_⟩;by_cases e:j=k
            .subst e;rw[<-A.o];exact⟨λ_=>y.o.1 rfl,λe=>(by rw[c] at e;cases e)⟩
            .exact bC P j A7
           case measure=>simp[intOf];omega
        .rw[c] at B;rw[T] at G;have r:∀W,K_ wr W->Calls prog 259 #[.agg #[.slice m s.asks.length n,.a s.on,.slice p s.cases.length q,.a s.els,.a s.fall,.bool true,.bool true,.string s.give],.a l.length] W λe w'=>Says e (DJ s)/\K_ W w':=λW S=>by
          have h:=Cb W s m p n q l.length Q;rw[c,T] at h;exact h
         have H:=Kz r;clear r;have I:=meth_bad;go_wp2
         go_region_with (first | (go_at_call 149;refine (EJ _ s m p n q).mono ?_;rintro e J ⟨rfl,t⟩;obtain⟨K,L⟩:=t.rules;have a6:K_ wr J:=K_.trans G7 t) | (go_at_call 259;refine (bC H _ F8).mono ?_;rintro e M ⟨⟨N,rfl,v⟩,O⟩;have x:K_ wr M:=K_.trans F8 O;have y:=Kz v;clear v))
         all_goals
          clear a2 a3 K L I R Y Z a0 c4 B G c7 E F;cases N
          .go_wp2
           go_ret
           exact⟨Says.no λh=>(by have z:=h.2.2 k D;rw[<-A.o] at z;have:=y.o.2 (z.1 c);cases this),i.trans (by repeat (first | apply K_.drew | exact d.trans x))⟩
          .go_wp2
           go_roundw
           case rel=>
            refine⟨k+1,A7,C8,by repeat (first | apply K_.drew | exact d.trans x),λj C=>?_⟩;by_cases e:j=k
            .subst e;rw[<-A.o];exact⟨λ_=>y.o.1 rfl,λe=>(by rw[c] at e;cases e)⟩
            .exact bC P j A7
           case measure=>simp[intOf];omega
      .go_wp2
       go_ret
       exact⟨Says.yes ⟨⟨a1,a7⟩,⟨by show 1<=l.length;omega,by show l.length<=20;omega⟩,λj (C:j<l.length)=>bC P j A7⟩,i.trans d⟩
    .go_enter func141,ntmps141
     go_wp2
     go_ret
     exact⟨Says.no λh=>by have:=h.2.1.2;simp at this;omega,i⟩
   .go_enter func141,ntmps141
    go_wp2
    go_ret
    exact⟨Says.no λh=>by have:=h.2.1.1;simp at this;omega,i⟩
  .go_enter func141,ntmps141
   go_wp2
   go_ret
   exact⟨Says.no λh=>by have:=h.1.2;simp at this;omega,i⟩
 .go_enter func141,ntmps141
  go_wp2
  go_ret
  exact⟨Says.no λh=>by have:=h.1.1;simp at this;omega,i⟩
def kX(l:List Xj)(at':Int):Xj:=l.getD at'.toNat Xj.zero
def om(cost:Int)(l:List Xj)(at':Int):Prop:=gW ⟨cost,l⟩/\(0<=at'/\at' < l.length)/\(kX l at').fin=false
def mK(cost:Int)(l:List Xj)(at':Int)(ans:List Xq)(g:b_):Prop:=
 (¬om cost l at'/\g=b_.none)\/(om cost l at'/\Followed (kX l at') ans g)
theorem mK.unique{cost:Int}{l:List Xj}{c:Int}{ans:List Xq}{g d:b_}(h:mK cost l c ans g)(e:mK cost l c ans d):g=d:=by
 rcases h with⟨a,rfl⟩ | ⟨a,f⟩ <;> rcases e with⟨b,rfl⟩ | ⟨b,i⟩
 .rfl
 .exact Pg b a
 .exact Pg a b
 .exact f.unique i
