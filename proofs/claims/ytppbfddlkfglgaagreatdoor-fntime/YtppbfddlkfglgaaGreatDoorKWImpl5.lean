import Derived.Test.YtppbfddlkfglgaaGreatDoorKVBfs
import Derived.Deep.RegionWith
set_option maxRecDepth 100000
set_option maxHeartbeats 25600000
namespace Go.Proofs.YtppbfddlkfglgaaGreatDoor
open Go.RowKit Go.Proofs.Tryz
def Oy(s:Xq)(n:Int):Prop:=s.cases.length<=5/\wN s n/\(0<=s.els/\s.els<n)/\(-1<=s.fall/\s.fall<n)
theorem zW(w:QX)(s:Xq)(p i:QW)(q r:Nat)(n:Int)(z:s.Fits)(K:1<=n/\n<=20)(L:lK w i s.cases):
  Calls prog 240 #[.agg #[.slice p s.asks.length q,.b s.on,.slice i s.cases.length r,.b s.els,.b s.fall,.bool s.fin,.bool s.bad,.string s.give],.b n] w λe w'=>Says e (Oy s n)/\K_ w w':=by
 have M:=z.cases;unfold maxLen at M;obtain⟨S,T⟩:=K;have c:K_ w (w.alloc (.cells #[.slice p s.asks.length q,.b s.on,.slice i s.cases.length r,.b s.els,.b s.fall,.bool s.fin,.bool s.bad,.string s.give] 229)):=ai _ _;by_cases U:(s.cases.length:Int)<=5
 .go_enter func240,ntmps240
  go_wp2
  go_loopw [16] (λt wr=>∃k:Nat,k<=s.cases.length/\t=.b k/\K_ (w.alloc (.cells #[.slice p s.asks.length q,.b s.on,.slice i s.cases.length r,.b s.els,.b s.fall,.bool s.fin,.bool s.bad,.string s.give] 229)) wr/\∀j,j<k->eU s n j) λt _=>s.cases.length-(intOf t).toNat
  case atStart=>exact⟨0,Py _,rfl,K_.refl _,λj v=>aS v⟩
  case round=>
   obtain⟨k,V,rfl,a,A⟩:=hrel;have x:=Kz A;clear A;have N:=a.size;simp only[Qh] at N;by_cases d:k<s.cases.length
   .obtain⟨b,o,rfl,W,l⟩:=(L.kept c).kept a k d;have B:(s.cases.getD k bQ.zero).text.size<=maxLen:=(z.dK _ (by simp[List.getD,d])).1;obtain⟨f,y⟩:=aj (s.cases.getD k bQ.zero);rw[<-y] at l B;have m:=Kz y;clear y;unfold maxLen at B;have O:=l 0 _ rfl;have X:=l 1 _ rfl;simp only[Qp] at O;clear l;by_cases Y:(f.text.size:Int)<=200
    .by_cases Z:0<=f.goto
     .cases C:decide (f.goto<n)
      .have P:n<=f.goto:=by simpa using C
       go_wp2
       go_ret
       exact⟨Says.no λh=>by have:=h.2.1 k d;unfold eU at this;rw[<-m.o] at this;obtain⟨D,E,F⟩:=this;omega,c.trans (a.alloc _)⟩
      .have P:f.goto<n:=by simpa using C
       go_wp2
       go_roundw
       case rel=>
        refine⟨k+1,A7,C8,a.alloc _,λj v=>?_⟩;by_cases e:j=k
        .subst e;unfold eU;rw[<-m.o];exact⟨A7,A7,A7⟩
        .exact bE x j A7
       case measure=>simp[intOf];omega
     .go_wp2
      go_ret
      exact⟨Says.no λh=>by have:=h.2.1 k d;unfold eU at this;rw[<-m.o] at this;obtain⟨D,E,F⟩:=this;omega,c.trans (a.alloc _)⟩
    .go_wp2
     go_ret
     exact⟨Says.no λh=>by have:=h.2.1 k d;unfold eU at this;rw[<-m.o] at this;obtain⟨D,E,F⟩:=this;omega,c.trans (a.alloc _)⟩
   .obtain⟨a0,a1⟩:=a.rules;have G:Hid (wN s n):=λj v=>bE x j A7
    clear x;by_cases b1:0<=s.els
    .cases H:decide (s.els<n)
     .have Q:n<=s.els:=by simpa using H
      go_wp2
      go_ret
      exact⟨Says.no λh=>by have:=h.2.2;omega,c.trans a⟩
     .have Q:s.els<n:=by simpa using H
      cases I:(s.fall == -1)
      .by_cases b4:0<=s.fall
       .cases J:decide (s.fall<n)
        .have R:n<=s.fall:=by simpa using J
         go_wp2
         go_ret
         exact⟨Says.no λh=>by have:=h.2.2;omega,c.trans a⟩
        .have R:s.fall<n:=by simpa using J
         go_wp2
         go_ret
         exact⟨Says.yes ⟨A7,G.out,⟨A7,A7⟩,⟨A7,A7⟩⟩,c.trans a⟩
       .go_wp2
        go_ret
        exact⟨Says.no λh=>by have:=h.2.2;simp at I;omega,c.trans a⟩
      .go_wp2
       go_ret
       exact⟨Says.yes ⟨A7,G.out,⟨A7,A7⟩,by simp at I;omega⟩,c.trans a⟩
    .go_wp2
     go_ret
     exact⟨Says.no λh=>by have:=h.2.2;omega,c.trans a⟩
 .go_enter func240,ntmps240
  go_wp2
  go_ret
  exact⟨Says.no λh=>by have:=h.1;omega,c⟩
theorem sV(w:QX)(s:Xq)(c d:QW)(f i:Nat)(n:Int)(x:s.Fits)(E:1<=n/\n<=20)(F:Strs w c s.asks)(G:lK w d s.cases)(H:s.asks.length<=f):
  Calls prog 238 #[.agg #[.slice c s.asks.length f,.b s.on,.slice d s.cases.length i,.b s.els,.b s.fall,.bool s.fin,.bool s.bad,.string s.give],.b n] w λe w'=>Says e (Ie s n)/\K_ w w':=by
 have j:K_ w (w.alloc (.cells #[.slice c s.asks.length f,.b s.on,.slice d s.cases.length i,.b s.els,.b s.fall,.bool s.fin,.bool s.bad,.string s.give] 229)):=ai _ _;have y:=uU s.give;have z:=Kz y;clear y;cases k:s.bad
 .rw[k] at j;cases A:s.give.toList.isEmpty
  .go_enter func238,ntmps238
   go_wp2
   go_ret
   exact⟨Says.no λh=>by have:=z.o.2 h.1.2.1;simp[this] at A,j⟩
  .have I:Hid (s.give.size=0):=z.o.1 (List.isEmpty_iff.1 A);go_enter func238,ntmps238
   go_wp2_with fail
   have q:=zY (w.alloc (.cells #[.slice c s.asks.length f,.b s.on,.slice d s.cases.length i,.b s.els,.b s.fall,.bool s.fin,.bool s.bad,.string s.give] 229)) s c d f i x (F.kept (ai _ _)) H;rw[k] at q;refine q.mono ?_;clear q;rintro e w1 ⟨b,l⟩;have r:=j.trans l;rcases b.cases with⟨rfl,m⟩|⟨rfl,p⟩
   .have t:=Kz m;clear m b;obtain⟨B,C⟩:=l.rules;have J:=l.size;simp only[Qh] at J;clear j l;have L:w.heap.size<w1.heap.size:=A7;go_wp2_with fail
    have v:=zW w1 s c d f i n x E (G.kept r);rw[k] at v;refine v.mono ?_;clear v;rintro e M ⟨b,K⟩;have D:=r.trans K;rcases b.cases with⟨rfl,m⟩|⟨rfl,p⟩
    .have a:=Kz m;clear m b B C;go_wp2
     go_ret
     exact⟨Says.yes ⟨⟨k,I.o,t.o.1,t.o.2.1,a.o.1,a.o.2.2.1,a.o.2.2.2,t.o.2.2⟩,a.o.2.1⟩,D⟩
    .have a:=Kz p;clear p b B C;go_wp2
     go_ret
     exact⟨Says.no λh=>a.o ⟨h.1.2.2.2.2.1,h.2,h.1.2.2.2.2.2.1,h.1.2.2.2.2.2.2.1⟩,D⟩
   .have a:=Kz p;clear p b j l;go_wp2
    go_ret
    exact⟨Says.no λh=>a.o ⟨h.1.2.2.1,h.1.2.2.2.1,h.1.2.2.2.2.2.2.2⟩,r⟩
 .go_enter func238,ntmps238
  go_wp2
  go_ret
  exact⟨Says.no λh=>by have:=h.1.1;simp[k] at this,ai _ _⟩
theorem Ag(w:QX)(s:Xq)(a b:QW)(c d:Nat)(n:Int)(f:s.Fits):
  Calls prog 244 #[.agg #[.slice a s.asks.length c,.b s.on,.slice b s.cases.length d,.b s.els,.b s.fall,.bool s.fin,.bool s.bad,.string s.give],.b n] w λe w'=>Says e (Et s)/\K_ w w':=by
 have h:K_ w (w.alloc (.cells #[.slice a s.asks.length c,.b s.on,.slice b s.cases.length d,.b s.els,.b s.fall,.bool s.fin,.bool s.bad,.string s.give] 231)):=ai _ _;go_enter func244,ntmps244
 go_wp2_with fail
 refine (tC _ s.asks.length s.on s.cases.length s.els s.fall s.fin s.bad s.give a b c d f.asks f.cases f.give).mono ?_;rintro e w1 ⟨⟨r,rfl,i⟩,j⟩;have l:=Kz i;have m:=h.trans j;clear i h j;go_wp2
 go_ret
 exact⟨⟨r,rfl,l.o⟩,m⟩
theorem BL(w:QX)(s:Xq)(a b:QW)(c d:Nat)(n:Int)(f:s.Fits):
  Calls prog 242 #[.agg #[.slice a s.asks.length c,.b s.on,.slice b s.cases.length d,.b s.els,.b s.fall,.bool s.fin,.bool s.bad,.string s.give],.b n] w λe w'=>Says e (Et s)/\K_ w w':=by
 have h:K_ w (w.alloc (.cells #[.slice a s.asks.length c,.b s.on,.slice b s.cases.length d,.b s.els,.b s.fall,.bool s.fin,.bool s.bad,.string s.give] 230)):=ai _ _;go_enter func242,ntmps242
 go_wp2_with fail
 refine (tC _ s.asks.length s.on s.cases.length s.els s.fall s.fin s.bad s.give a b c d f.asks f.cases f.give).mono ?_;rintro e w1 ⟨⟨r,rfl,i⟩,j⟩;have l:=Kz i;have m:=h.trans j;clear i h j;go_wp2
 go_ret
 exact⟨⟨r,rfl,l.o⟩,m⟩
theorem xy(w:QX)(s:Xq)(a b:QW)(c d:Nat):
  Calls prog 141 #[.agg #[.slice a s.asks.length c,.b s.on,.slice b s.cases.length d,.b s.els,.b s.fall,.bool false,.bool s.bad,.string s.give]] w λe w'=>e=.returned (.iface 229 (.agg #[.slice a s.asks.length c,.b s.on,.slice b s.cases.length d,.b s.els,.b s.fall,.bool false,.bool s.bad,.string s.give]))/\K_ w w':=by
 go_enter func141,ntmps141
 go_wp2
 go_ret
 exact⟨rfl,ai _ _⟩
theorem Gh(w:QX)(s:Xq)(a b:QW)(c d:Nat):
  Calls prog 141 #[.agg #[.slice a s.asks.length c,.b s.on,.slice b s.cases.length d,.b s.els,.b s.fall,.bool true,.bool true,.string s.give]] w λe w'=>e=.returned (.iface 230 (.agg #[.slice a s.asks.length c,.b s.on,.slice b s.cases.length d,.b s.els,.b s.fall,.bool true,.bool true,.string s.give]))/\K_ w w':=by
 go_enter func141,ntmps141
 go_wp2
 go_ret
 exact⟨rfl,ai _ _⟩
theorem Dl(w:QX)(s:Xq)(a b:QW)(c d:Nat):
  Calls prog 141 #[.agg #[.slice a s.asks.length c,.b s.on,.slice b s.cases.length d,.b s.els,.b s.fall,.bool true,.bool false,.string s.give]] w λe w'=>e=.returned (.iface 231 (.agg #[.slice a s.asks.length c,.b s.on,.slice b s.cases.length d,.b s.els,.b s.fall,.bool true,.bool false,.string s.give]))/\K_ w w':=by
 go_enter func141,ntmps141
 go_wp2
 go_ret
 exact⟨rfl,ai _ _⟩
theorem meth_ask (vs : Array Value) (W : World) : (method 408 229 (.agg vs) "loop.example/kilnweb/impl.sound").run Tryz.prog W = .ok (238, .agg vs) W := by kernel_rfl
theorem meth_bad (vs : Array Value) (W : World) : (method 408 230 (.agg vs) "loop.example/kilnweb/impl.sound").run Tryz.prog W = .ok (242, .agg vs) W := by kernel_rfl
theorem meth_good (vs : Array Value) (W : World) : (method 408 231 (.agg vs) "loop.example/kilnweb/impl.sound").run Tryz.prog W = .ok (244, .agg vs) W := by kernel_rfl
theorem ry(w:QX)(cost:Int)(a:QW)(cap:Nat)(l:List Xq)(hl:l.length<=maxLen)(hs:∀s∈l,s.Fits)(hS:Steps w a l):
  Calls prog 113 #[.agg #[.b cost,.slice a l.length cap]] w λe w'=>Says e (iF ⟨cost,l⟩)/\K_ w w':=by
 unfold maxLen at hl;have i:K_ w (w.alloc (.cells #[.b cost,.slice a l.length cap] 62)):=ai _ _;by_cases a6:1<=cost
 .by_cases a2:cost<=20
  .by_cases a7:(1:Int)<=l.length
   .by_cases a8:(l.length:Int)<=20
    .have e1:decide (cost<1)=false:=D7;have e2:decide (20<cost)=false:=D7;have e3:decide ((l.length:Int)<1)=false:=D7;have e4:decide (20<(l.length:Int))=false:=D7;go_enter func113,ntmps113
     go_wp2
     clear e1 e2 e3 e4;go_loopw [28] (λT wr=>∃k:Nat,k<=l.length/\T=.b k/\K_ (w.alloc (.cells #[.b cost,.slice a l.length cap] 62)) wr/\∀j,j<k->lQ (l.getD j Xq.zero) l.length) λT _=>l.length-(intOf T).toNat
     case atStart=>exact⟨0,Py _,rfl,K_.refl _,λj C=>aS C⟩
     case round=>
      obtain⟨k,hk,rfl,d,hg⟩:=hrel;have O:=Kz hg;clear hg;have a9:=d.size;simp only[Qh] at a9;by_cases D:k<l.length
      .obtain⟨b,o,cs,rfl,hb,f,m,n,p,q,rfl,E,F,a4⟩:=(hS.kept i).kept d k D;have P:=hs (l.getD k Xq.zero) (by simp[List.getD,D]);obtain⟨s,U⟩:=aj (l.getD k Xq.zero);rw[<-U] at f P E F a4;have A:=Kz U;clear U;have Q:=f 0 _ rfl;have V:=f 1 _ rfl;have X:=f 2 _ rfl;have Y:=f 3 _ rfl;have Z:=f 4 _ rfl;have B:=f 5 _ rfl;have G:=f 6 _ rfl;have a0:=f 7 _ rfl;simp only[Qp] at Q;clear f;obtain⟨a1,a3⟩:=d.rules;have z0:w.heap.size<wr.heap.size:=A7;have z1:w.heap.size<wr.heap.size+1:=A7;cases c:s.fin
       .rw[c] at B;have r:∀W,K_ wr W->Calls prog 238 #[.agg #[.slice m s.asks.length n,.b s.on,.slice p s.cases.length q,.b s.els,.b s.fall,.bool false,.bool s.bad,.string s.give],.b l.length] W λe w'=>Says e (Ie s l.length)/\K_ W w':=λW R=>by
         have h:=sV W s m p n q l.length P ⟨a7,a8⟩ (E.kept R) (F.kept R) a4;rw[c] at h;exact h
        have H:=Kz r;clear r;have I:=meth_ask;go_wp2
        go_region_with (first|(go_at_call 141;refine (xy _ s m p n q).mono ?_;rintro e w1 ⟨rfl,t⟩;obtain⟨J,K⟩:=t.rules;have a5:K_ wr w1:=K_.trans G8 t)|(go_at_call 238;refine (bE H _ G5).mono ?_;rintro e L ⟨⟨M,rfl,v⟩,N⟩;have x:K_ wr L:=K_.trans G5 N;have y:=Kz v;clear v))
        all_goals
         clear a1 a3 J K I Q V X Y Z B G a0 E F;cases M
         .go_wp2
          go_ret
          exact⟨Says.no λh=>(by have z:=h.2.2 k D;rw[<-A.o] at z;have:=y.o.2 (z.2 c);cases this),i.trans (by repeat (first|apply K_.drew|exact d.trans x))⟩
         .go_wp2
          go_roundw
          case rel=>
           refine⟨k+1,A7,C8,by repeat (first|apply K_.drew|exact d.trans x),λj C=>?_⟩;by_cases e:j=k
           .subst e;rw[<-A.o];exact⟨λe=>(by rw[c] at e;cases e),λ_=>y.o.1 rfl⟩
           .exact bE O j A7
          case measure=>simp[intOf];omega
       .cases S:s.bad
        .rw[c] at B;rw[S] at G;have r:∀W,K_ wr W->Calls prog 244 #[.agg #[.slice m s.asks.length n,.b s.on,.slice p s.cases.length q,.b s.els,.b s.fall,.bool true,.bool false,.string s.give],.b l.length] W λe w'=>Says e (Et s)/\K_ W w':=λW R=>by
          have h:=Ag W s m p n q l.length P;rw[c,S] at h;exact h
         have H:=Kz r;clear r;have I:=meth_good;go_wp2
         go_region_with (first|(go_at_call 141;refine (Dl _ s m p n q).mono ?_;rintro e w1 ⟨rfl,t⟩;obtain⟨J,K⟩:=t.rules;have a5:K_ wr w1:=K_.trans G8 t)|(go_at_call 244;refine (bE H _ G5).mono ?_;rintro e L ⟨⟨M,rfl,v⟩,N⟩;have x:K_ wr L:=K_.trans G5 N;have y:=Kz v;clear v))
         all_goals
          clear a1 a3 J K I Q V X Y Z B G a0 E F;cases M
          .go_wp2
           go_ret
           exact⟨Says.no λh=>(by have z:=h.2.2 k D;rw[<-A.o] at z;have:=y.o.2 (z.1 c);cases this),i.trans (by repeat (first|apply K_.drew|exact d.trans x))⟩
          .go_wp2
           go_roundw
           case rel=>
            refine⟨k+1,A7,C8,by repeat (first|apply K_.drew|exact d.trans x),λj C=>?_⟩;by_cases e:j=k
            .subst e;rw[<-A.o];exact⟨λ_=>y.o.1 rfl,λe=>(by rw[c] at e;cases e)⟩
            .exact bE O j A7
           case measure=>simp[intOf];omega
        .rw[c] at B;rw[S] at G;have r:∀W,K_ wr W->Calls prog 242 #[.agg #[.slice m s.asks.length n,.b s.on,.slice p s.cases.length q,.b s.els,.b s.fall,.bool true,.bool true,.string s.give],.b l.length] W λe w'=>Says e (Et s)/\K_ W w':=λW R=>by
          have h:=BL W s m p n q l.length P;rw[c,S] at h;exact h
         have H:=Kz r;clear r;have I:=meth_bad;go_wp2
         go_region_with (first|(go_at_call 141;refine (Gh _ s m p n q).mono ?_;rintro e w1 ⟨rfl,t⟩;obtain⟨J,K⟩:=t.rules;have a5:K_ wr w1:=K_.trans G8 t)|(go_at_call 242;refine (bE H _ G5).mono ?_;rintro e L ⟨⟨M,rfl,v⟩,N⟩;have x:K_ wr L:=K_.trans G5 N;have y:=Kz v;clear v))
         all_goals
          clear a1 a3 J K I Q V X Y Z B G a0 E F;cases M
          .go_wp2
           go_ret
           exact⟨Says.no λh=>(by have z:=h.2.2 k D;rw[<-A.o] at z;have:=y.o.2 (z.1 c);cases this),i.trans (by repeat (first|apply K_.drew|exact d.trans x))⟩
          .go_wp2
           go_roundw
           case rel=>
            refine⟨k+1,A7,C8,by repeat (first|apply K_.drew|exact d.trans x),λj C=>?_⟩;by_cases e:j=k
            .subst e;rw[<-A.o];exact⟨λ_=>y.o.1 rfl,λe=>(by rw[c] at e;cases e)⟩
            .exact bE O j A7
           case measure=>simp[intOf];omega
      .go_wp2
       go_ret
       exact⟨Says.yes ⟨⟨a6,a2⟩,⟨by show 1<=l.length;omega,by show l.length<=20;omega⟩,λj (C:j<l.length)=>bE O j A7⟩,i.trans d⟩
    .go_enter func113,ntmps113
     go_wp2
     go_ret
     exact⟨Says.no λh=>by have:=h.2.1.2;simp at this;omega,i⟩
   .go_enter func113,ntmps113
    go_wp2
    go_ret
    exact⟨Says.no λh=>by have:=h.2.1.1;simp at this;omega,i⟩
  .go_enter func113,ntmps113
   go_wp2
   go_ret
   exact⟨Says.no λh=>by have:=h.1.2;simp at this;omega,i⟩
 .go_enter func113,ntmps113
  go_wp2
  go_ret
  exact⟨Says.no λh=>by have:=h.1.1;simp at this;omega,i⟩
