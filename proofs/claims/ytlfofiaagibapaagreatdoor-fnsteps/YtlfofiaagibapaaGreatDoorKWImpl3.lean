import Derived.Test.YtlfofiaagibapaaGreatDoorProg
import Derived.Test.YtlfofiaagibapaaGreatDoorKVBfs
import Derived.WalkSpells
import Derived.WalkLawsBesides
set_option maxRecDepth 100000
set_option maxHeartbeats 25600000
namespace Go.Proofs.YtlfofiaagibapaaGreatDoor
open Go.RowKit Go.Proofs.Tryz
theorem zf(w:NN)(s:NL):∃cap C fr,(convert 9 22 (.string s)).run prog w=.ok (.b w.heap.size s.size cap) (w.drew.alloc (.cells C 5 fr))/\
  ∀j (h:j<s.size),(w.alloc (.cells C 5 fr)).cell? ⟨w.heap.size,j,none⟩=some (.int .u8 (s[j].toNat:Int)):=by
 refine⟨_,_,_,run_bytes_of_string (P:=prog) w 9 22 5 s underlying9 underlying22 underlying5,λj h=>?_⟩;rw[World.cell?_alloc_mark];unfold bytesRow;have b:j<s.data.size:=h;rw[Array.getElem?_append_left (by simpa using b)];simp only[Array.getElem?_map,Array.getElem?_eq_getElem b,Option.map_some]
 rfl
theorem nN(w:NN)(s:NL)(m:s.size<=maxLen):Calls prog 64 #[.string s] w λe w'=>Says e (jo s)/\w'=w:=by
 unfold maxLen at m;by_cases n:(1:Int)<=s.size
 .by_cases p:(s.size:Int)<=20
  .cases c:(s.toList == [45])
   .go_enter func64,ntmps64
    go_wp2
    go_loop [3] (λi=>∃k:Nat,k<=s.size/\i=.a k/\∀j (h:j<s.size),j<k->iU s[j]) (λi=>s.size-(intOf i).toNat)
    case atStart=>exact⟨0,Ml _,rfl,λj _ a=>aO a⟩
    case round=>
     obtain⟨k,q,rfl,d⟩:=hrel;have f:=Kz d;clear d;by_cases b:k<s.size
     .by_cases r:(s[k].toNat:Int)<33
      .go_wp2
       go_ret
       exact⟨Says.no λh=>by have:=h.2.2.2 k b;unfold iU at this;omega,rfl⟩
      .by_cases t:126<(s[k].toNat:Int)
       .go_wp2
        go_ret
        exact⟨Says.no λh=>by have:=h.2.2.2 k b;unfold iU at this;omega,rfl⟩
       .cases l:((s[k].toNat:Int) == 44)
        .go_wp2
         go_round
         case rel=>
          refine⟨k+1,E5,F3,λj a v=>?_⟩;by_cases e:j=k
          .subst e;exact⟨E5,E5,by simpa using l⟩
          .exact bg f j a E5
         case measure=>simp[intOf];omega
        .go_wp2
         go_ret
         exact⟨Says.no λh=>by have:=h.2.2.2 k b;unfold iU at this;simp at l;omega,rfl⟩
     .go_wp2
      go_ret
      exact⟨Says.yes ⟨E5,E5,c,λj a=>bg f j a E5⟩,rfl⟩
   .go_enter func64,ntmps64
    go_wp2
    go_ret
    exact⟨Says.no λh=>by have:=h.2.2.1;simp[c] at this,rfl⟩
  .go_enter func64,ntmps64
   go_wp2
   go_ret
   exact⟨Says.no λh=>by have:=h.2.1;omega,rfl⟩
 .go_enter func64,ntmps64
  go_wp2
  go_ret
  exact⟨Says.no λh=>by have:=h.1;omega,rfl⟩
theorem mI(w:NN)(s:NL)(n:s.size<=maxLen):Calls prog 87 #[.string s] w λe w'=>Says e (jo s)/\K_ w w':=by
 unfold maxLen at n;by_cases r:(1:Int)<=s.size
 .by_cases t:(s.size:Int)<=20
  .cases c:(s.toList == [45])
   .obtain⟨v,C,p,q,d⟩:=zf w s;go_enter func87,ntmps87
    go_wp2
    clear q;go_loopw [20] (λi wr=>∃k:Nat,k<=s.size/\i=.a k/\(∀j (h:j<s.size),j<k->iU s[j])/\wr= (w.alloc (.cells C 5 p)).drew) (λi _=>s.size-(intOf i).toNat)
    case atStart=>exact⟨0,Ml _,rfl,λj _ a=>aO a,rfl⟩
    case round=>
     obtain⟨k,x,rfl,f,rfl⟩:=hrel;have l:=Kz f;clear f;by_cases b:k<s.size
     .have y:=d k b;clear d;by_cases z:(s[k].toNat:Int)<33
      .go_wp2
       go_ret
       exact⟨Says.no λh=>by have:=h.2.2.2 k b;unfold iU at this;omega,(ah _ _).drew⟩
      .by_cases A:126<(s[k].toNat:Int)
       .go_wp2
        go_ret
        exact⟨Says.no λh=>by have:=h.2.2.2 k b;unfold iU at this;omega,(ah _ _).drew⟩
       .cases m:((s[k].toNat:Int) == 44)
        .go_wp2
         go_roundw
         case rel=>
          refine⟨k+1,E5,F3,λj a B=>?_,by first|rfl|trivial⟩;by_cases e:j=k
          .subst e;exact⟨E5,E5,by simpa using m⟩
          .exact bg l j a E5
         case measure=>simp[intOf];omega
        .go_wp2
         go_ret
         exact⟨Says.no λh=>by have:=h.2.2.2 k b;unfold iU at this;simp at m;omega,(ah _ _).drew⟩
     .go_wp2
      go_ret
      exact⟨Says.yes ⟨E5,E5,c,λj a=>bg l j a E5⟩,(ah _ _).drew⟩
   .go_enter func87,ntmps87
    go_wp2
    go_ret
    exact⟨Says.no λh=>by have:=h.2.2.1;simp[c] at this,K_.refl _⟩
  .go_enter func87,ntmps87
   go_wp2
   go_ret
   exact⟨Says.no λh=>by have:=h.2.1;omega,K_.refl _⟩
 .go_enter func87,ntmps87
  go_wp2
  go_ret
  exact⟨Says.no λh=>by have:=h.1;omega,K_.refl _⟩
theorem lV(w:NN)(a:NM)(J:Nat)(l:List NL)(K:l.length<=maxLen)(L:∀s∈l,s.size<=maxLen)(p:Strs w a l):Calls prog 79 #[.slice a l.length J] w λe w'=>Says e (sU l)/\K_ w w':=by
 unfold maxLen at K;go_enter func79,ntmps79
 go_wp2
 go_loopw [3] (λr wr=>∃k:Nat,k<=l.length/\r=.a k/\K_ w wr/\∀j,j<k->jo (l.getD j ByteArray.empty)/\∀m,m<j->l.getD m ByteArray.empty≠l.getD j ByteArray.empty) (λr _=>l.length-(intOf r).toNat)
 case atStart=>exact⟨0,Ml _,rfl,K_.refl _,λj c=>aO c⟩
 case round=>
  obtain⟨k,T,rfl,d,z⟩:=hrel;have A:=Kz z;clear z;by_cases f:k<l.length
  .obtain⟨b,o,rfl,U,B⟩:=p.kept d k f;have C:(l.getD k ByteArray.empty).size<=maxLen:=L _ (by simp[List.getD,f]);let⟨s,v⟩:=aj (l.getD k ByteArray.empty);rw[<-v] at B C;have n:=Kz v;clear v;go_wp2_with fail
   refine (nN _ s C).mono ?_;rintro e V ⟨D,rfl⟩;rcases D.cases with⟨rfl,E⟩|⟨rfl,M⟩
   .have N:=Kz E;clear E D;go_wp2
    clear B;go_loopw [4] (λm wr=>∃q:Nat,q<=k/\m=.a q/\K_ w wr/\∀t,t<q->l.getD t ByteArray.empty≠s) (λm _=>k-(intOf m).toNat)
    case atStart=>exact⟨0,Ml _,rfl,d,λj c=>aO c⟩
    case round=>
     obtain⟨q,W,rfl,h,F⟩:=hrel;have G:=Kz F;clear F d;by_cases O:q<k
     .obtain⟨P,Q,i,X,R⟩:=p.kept h k f;simp only[Na,NI,and_true] at i;obtain⟨rfl,rfl⟩:=i;let⟨P,Q,i,Y,S⟩:=p.kept h q E5;simp only[Na,NI,and_true] at i;obtain⟨rfl,rfl⟩:=i;rw[<-n.o] at R;let⟨t,x⟩:=aj (l.getD q ByteArray.empty);rw[<-x] at S;have H:=Kz x;clear x;cases I:(t.toList == s.toList)
      .go_wp2
       go_region
       all_goals
        go_wp2
        go_roundw
        case rel=>
         refine⟨q+1,E5,F3,by repeat (first|apply K_.drew|exact h),λj c=>?_⟩;by_cases e:j=q
         .subst e;rw[<-H.o];exact tu I
         .exact bg G j E5
        case measure=>simp[intOf];omega
      .go_wp2
       go_region
       all_goals
        go_wp2
        go_ret
        exact⟨Says.no λy=>(y k f).2 q O (by rw[<-H.o,<-n.o];exact qh.1 I),by repeat (first|apply K_.drew|exact h)⟩
     .go_wp2
      go_roundw
      case rel=>
       refine⟨k+1,E5,F3,h,λj c=>?_⟩;by_cases e:j=k
       .subst e;rw[<-n.o];exact⟨N.o,λm Z=>bg G m E5⟩
       .exact bg A j E5
      case measure=>simp[intOf];omega
   .go_wp2
    go_ret
    exact⟨Says.no λy=>M (by rw[n.o];exact (y k f).1),d⟩
  .go_wp2
   go_ret
   exact⟨Says.yes λj c=>bg A j E5,d⟩
def Has(l:List NL)(v:NL):Prop:=∃i,i<l.length/\l.getD i ByteArray.empty=v
theorem Gt(w:NN)(a:NM)(q:Nat)(l:List NL)(v:NL)(s:l.length<=maxLen)(t:Strs w a l):Calls prog 141 #[.slice a l.length q,.string v] w λe w'=>(∃r,e=.returned (.a r)/\(0<=r↔Has l v))/\w'=w:=by
 unfold maxLen at s;go_enter func141,ntmps141
 go_wp2
 go_loop [8] (λi=>∃k:Nat,k<=l.length/\i=.a k/\∀j,j<k->l.getD j ByteArray.empty≠v) (λi=>l.length-(intOf i).toNat)
 case atStart=>exact⟨0,Ml _,rfl,λj d=>aO d⟩
 case round=>
  obtain⟨k,z,rfl,f⟩:=hrel;have h:=Kz f;clear f;by_cases m:k<l.length
  .obtain⟨b,o,rfl,A,x⟩:=t k m;let⟨y,c⟩:=aj (l.getD k ByteArray.empty);rw[<-c] at x;have n:=Kz c;clear c;cases p:(v.toList == y.toList)
   .go_wp2
    go_round
    case rel=>
     refine⟨k+1,E5,F3,λj d=>?_⟩;by_cases e:j=k
     .subst e;rw[<-n.o];exact (tu p).symm
     .exact bg h j E5
    case measure=>simp[intOf];omega
   .go_wp2
    go_ret
    exact⟨⟨_,rfl,⟨λ_=>⟨k,m,by rw[<-n.o];exact (qh.1 p).symm⟩,λ_=>E5⟩⟩,rfl⟩
  .go_wp2
   go_ret
   exact⟨⟨_,rfl,⟨λB=>E5,λ⟨i,C,e⟩=>NB e (bg h i E5)⟩⟩,rfl⟩
theorem Bc(w:NN)(a:NM)(d:Nat)(l:List NL)(v:NL)(i:l.length<=maxLen)(j:Strs w a l):Calls prog 88 #[.slice a l.length d,.string v] w λe w'=>Says e (Has l v)/\w'=w:=by
 go_enter func88,ntmps88
 go_wp2_with fail
 refine (Gt _ a d l v i j).mono ?_;rintro e n ⟨⟨r,rfl,f⟩,rfl⟩;have h:=Kz f;clear f;by_cases c:0<=r
 .have k:decide (0<=r)=true:=by simpa using c
  go_wp2
  go_ret
  exact⟨Says.congr (p:=True) (Says.yes trivial) ⟨λ_=>h.o.1 c,λ_=>trivial⟩,rfl⟩
 .have k:decide (0<=r)=false:=by simpa using c
  go_wp2
  go_ret
  exact⟨Says.congr (p:=False) (Says.no id) ⟨False.elim,λm=>by have:=h.o.2 m;omega⟩,rfl⟩
theorem rT(w:NN)(asks:Nat)(on:Int)(cases:Nat)(els fall:Int)(fin bad:Bool)(give:NL)(i j:NM)(k l:Nat)(m:asks<=maxLen)(h2:cases<=maxLen)(n:give.size<=maxLen):Calls prog 269 #[.agg #[.slice i asks k,.a on,.slice j cases l,.a els,.a fall,.bool fin,.bool bad,.string give]] w
   λe w'=>Says e (asks=0/\on=0/\cases=0/\els=0/\fall=0/\give.size<=30)/\K_ w w':=by
 unfold maxLen at m h2 n;cases a:((asks:Int) == 0)
 .go_enter func269,ntmps269
  go_wp2
  all_goals
   go_ret
   exact⟨Says.no λh=>by simp at a;omega,ah _ _⟩
 .obtain rfl:asks=0:=by simp at a;omega
  clear a;cases b:(on == 0)
  .go_enter func269,ntmps269
   go_wp2
   all_goals
    go_ret
    exact⟨Says.no λh=>by simp at b;omega,ah _ _⟩
  .obtain rfl:on=0:=by simpa using b
   clear b;cases c:((cases:Int) == 0)
   .go_enter func269,ntmps269
    go_wp2
    go_ret
    exact⟨Says.no λh=>by simp at c;omega,ah _ _⟩
   .obtain rfl:cases=0:=by simp at c;omega
    clear c;cases d:(els == 0)
    .go_enter func269,ntmps269
     go_wp2
     go_ret
     exact⟨Says.no λh=>by simp at d;omega,ah _ _⟩
    .obtain rfl:els=0:=by simpa using d
     clear d;cases f:(fall == 0)
     .go_enter func269,ntmps269
      go_wp2
      go_ret
      exact⟨Says.no λh=>by simp at f;omega,ah _ _⟩
     .obtain rfl:fall=0:=by simpa using f
      clear f;by_cases p:(give.size:Int)<=30
      .go_enter func269,ntmps269
       go_wp2
       go_ret
       exact⟨Says.yes F6,ah _ _⟩
      .go_enter func269,ntmps269
       go_wp2
       go_ret
       exact⟨Says.no λh=>E5,ah _ _⟩
theorem Strs.take{w:NN}{a:NM}{l:List NL}(h:Strs w a l)(k:Nat):Strs w a (l.take k):=by
 intro i c;have d:i<l.length:=by simp at c;omega
 have e:i<k:=by simp at c;omega
 let⟨b,o,f,j,m⟩:=h i d;refine⟨b,o,f,j,?_⟩;rw[m];simp[List.getD,e]
theorem GX{l:List NL}{k:Nat}(d:k<=l.length){v:NL}:Has (l.take k) v↔∃i,i<k/\l.getD i ByteArray.empty=v:=by
 unfold Has;constructor
 .rintro⟨i,a,e⟩;have c:i<k:=by simp at a;omega
  exact⟨i,c,by rw[<-e];simp[List.getD,c]⟩
 .rintro⟨i,a,e⟩;exact⟨i,F6,by rw[<-e];simp[List.getD,a]⟩
theorem qM(w:NN)(a:NM)(b k:Nat)(l:List NL)(v:NL)(j:l.length<=maxLen)(c:k<=l.length)(d:Strs w a l):Calls prog 88 #[.slice a k b,.string v] w λe w'=>Says e (∃i,i<k/\l.getD i ByteArray.empty=v)/\w'=w:=by
 have e:(l.take k).length=k:=F6;have:=Bc w a b (l.take k) v (by rw[e];omega) (d.take k);rw[e] at this;exact this.mono λe w' ⟨h,f⟩=>⟨h.congr (GX c),f⟩
def Ls(s:Xq):Prop:=s.asks.length<=5/\sU s.asks/\(s.on=0\/(0<=s.on/\s.on<s.asks.length))
def BF(l:List NL)(j:Nat):Prop:=jo (l.getD j ByteArray.empty)/\∀m,m<j->l.getD m ByteArray.empty≠l.getD j ByteArray.empty
theorem yO(w:NN)(s:Xq)(q v:NM)(f x:Nat)(y:s.Fits)(G:Strs w q s.asks)(T:s.asks.length<=f):Calls prog 265 #[.agg #[.slice q s.asks.length f,.a s.on,.slice v s.cases.length x,.a s.els,.a s.fall,.bool s.fin,.bool s.bad,.string s.give]] w λe w'=>Says e (Ls s)/\K_ w w':=by
 have M:=y.asks;unfold maxLen at M;have c:K_ w (w.alloc (.cells #[.slice q s.asks.length f,.a s.on,.slice v s.cases.length x,.a s.els,.a s.fall,.bool s.fin,.bool s.bad,.string s.give] 230)):=ah _ _;by_cases U:(s.asks.length:Int)<=5
 .go_enter func265,ntmps265
  go_wp2
  go_loopw [14] (λi wr=>∃k:Nat,k<=s.asks.length/\i=.a k/\K_ (w.alloc (.cells #[.slice q s.asks.length f,.a s.on,.slice v s.cases.length x,.a s.els,.a s.fall,.bool s.fin,.bool s.bad,.string s.give] 230)) wr/\∀j,j<k->BF s.asks j) (λi _=>s.asks.length-(intOf i).toNat)
  case atStart=>exact⟨0,Ml _,rfl,K_.refl _,λj z=>aO z⟩
  case round=>
   obtain⟨k,V,rfl,a,H⟩:=hrel;have A:=Kz H;clear H;have N:=a.size;simp only[MZ] at N;by_cases r:k<s.asks.length
   .obtain⟨b,o,rfl,O,I⟩:=(G.kept c).kept a k r;have J:(s.asks.getD k ByteArray.empty).size<=maxLen:=y.eQ _ (by simp[List.getD,r]);let⟨K,B⟩:=aj (s.asks.getD k ByteArray.empty);rw[<-B] at I J;have t:=Kz B;clear B;go_wp2_with fail
    refine (mI _ K J).mono ?_;rintro e W ⟨d,C⟩;have l:=a.trans C;have D:=(G.kept c).kept l;clear I O;rcases d.cases with⟨rfl,m⟩|⟨rfl,n⟩
    .have P:=Kz m;clear m d a C;let⟨E,F⟩:=l.rules;have X:k<=f:=E5;go_wp2_with fail
     refine (qM _ _ f k s.asks K y.asks E5 D).mono ?_;rintro e Y ⟨d,rfl⟩;rcases d.cases with⟨rfl,m⟩|⟨rfl,n⟩
     .have p:=Kz m;clear m d D E F;go_wp2
      go_ret
      exact⟨Says.no λh=>by let⟨i,Q,e⟩:=p.o;exact (h.2.1 k r).2 i Q (by rw[e,t.o]),c.trans l⟩
     .have p:=Kz n;clear n d D E F;go_wp2
      go_roundw
      case rel=>
       refine⟨k+1,E5,F3,l,λj z=>?_⟩;by_cases e:j=k
       .subst e;exact⟨by rw[<-t.o];exact P.o,λR S h=>p.o ⟨R,S,by rw[h,t.o]⟩⟩
       .exact bg A j E5
      case measure=>simp[intOf];omega
    .have p:=Kz n;clear n d a C;go_wp2
     go_ret
     exact⟨Says.no λh=>p.o (by rw[t.o];exact (h.2.1 k r).1),c.trans l⟩
   .obtain⟨E,F⟩:=a.rules;have L:Hid (sU s.asks):=λj z=>bg A j E5
    clear A;go_wp2
    .go_ret
     exact⟨(Says.dec _).congr ⟨λh=>⟨E5,L.out,E5⟩,λh=>by have:=h.2.2;omega⟩,c.trans a⟩
    .go_ret
     exact⟨(Says.dec _).congr ⟨λh=>⟨E5,L.out,E5⟩,λh=>by have:=h.2.2;omega⟩,c.trans a⟩
    all_goals
     go_ret
     exact⟨Says.no λh=>by have:=h.2.2;omega,c.trans a⟩
 .go_enter func265,ntmps265
  go_wp2
  go_ret
  exact⟨Says.no λh=>by have:=h.1;omega,c⟩
def Lf(s:Xq)(n:Int):Prop:=s.cases.length<=5/\vK s n/\(0<=s.els/\s.els<n)/\(-1<=s.fall/\s.fall<n)
theorem yL(w:NN)(s:Xq)(p i:NM)(q r:Nat)(n:Int)(z:s.Fits)(K:1<=n/\n<=20)(L:lm w i s.cases):Calls prog 266 #[.agg #[.slice p s.asks.length q,.a s.on,.slice i s.cases.length r,.a s.els,.a s.fall,.bool s.fin,.bool s.bad,.string s.give],.a n] w λe w'=>Says e (Lf s n)/\K_ w w':=by
 have M:=z.cases;unfold maxLen at M;let⟨S,T⟩:=K;have c:K_ w (w.alloc (.cells #[.slice p s.asks.length q,.a s.on,.slice i s.cases.length r,.a s.els,.a s.fall,.bool s.fin,.bool s.bad,.string s.give] 230)):=ah _ _;by_cases U:(s.cases.length:Int)<=5
 .go_enter func266,ntmps266
  go_wp2
  go_loopw [16] (λt wr=>∃k:Nat,k<=s.cases.length/\t=.a k/\K_ (w.alloc (.cells #[.slice p s.asks.length q,.a s.on,.slice i s.cases.length r,.a s.els,.a s.fall,.bool s.fin,.bool s.bad,.string s.give] 230)) wr/\∀j,j<k->eD s n j) (λt _=>s.cases.length-(intOf t).toNat)
  case atStart=>exact⟨0,Ml _,rfl,K_.refl _,λj v=>aO v⟩
  case round=>
   obtain⟨k,V,rfl,a,A⟩:=hrel;have x:=Kz A;clear A;have N:=a.size;simp only[MZ] at N;by_cases d:k<s.cases.length
   .obtain⟨b,o,rfl,W,l⟩:=(L.kept c).kept a k d;have B:(s.cases.getD k bU.zero).text.size<=maxLen:=(z.dH _ (by simp[List.getD,d])).1;let⟨f,y⟩:=aj (s.cases.getD k bU.zero);rw[<-y] at l B;have m:=Kz y;clear y;unfold maxLen at B;have O:=l 0 _ rfl;have X:=l 1 _ rfl;simp only[Ng] at O;clear l;by_cases Y:(f.text.size:Int)<=200
    .by_cases Z:0<=f.goto
     .cases C:decide (f.goto<n)
      .have P:n<=f.goto:=by simpa using C
       go_wp2
       go_ret
       exact⟨Says.no λh=>by have:=h.2.1 k d;unfold eD at this;rw[<-m.o] at this;let⟨D,E,F⟩:=this;omega,c.trans (a.alloc _)⟩
      .have P:f.goto<n:=by simpa using C
       go_wp2
       go_roundw
       case rel=>
        refine⟨k+1,E5,F3,a.alloc _,λj v=>?_⟩;by_cases e:j=k
        .subst e;unfold eD;rw[<-m.o];exact⟨E5,E5,E5⟩
        .exact bg x j E5
       case measure=>simp[intOf];omega
     .go_wp2
      go_ret
      exact⟨Says.no λh=>by have:=h.2.1 k d;unfold eD at this;rw[<-m.o] at this;let⟨D,E,F⟩:=this;omega,c.trans (a.alloc _)⟩
    .go_wp2
     go_ret
     exact⟨Says.no λh=>by have:=h.2.1 k d;unfold eD at this;rw[<-m.o] at this;let⟨D,E,F⟩:=this;omega,c.trans (a.alloc _)⟩
   .obtain⟨a0,a1⟩:=a.rules;have G:Hid (vK s n):=λj v=>bg x j E5
    clear x;by_cases b1:0<=s.els
    .cases H:decide (s.els<n)
     .have Q:n<=s.els:=by simpa using H
      go_wp2
      go_ret
      exact⟨Says.no λh=>by have:=h.2.2;omega,c.trans a⟩
     .have Q:s.els<n:=by simpa using H
      cases I:(s.fall == -1)
      .by_cases b4:0<=s.fall
       .cases J:decide (s.fall<n)
        .have R:n<=s.fall:=by simpa using J
         go_wp2
         go_ret
         exact⟨Says.no λh=>by have:=h.2.2;omega,c.trans a⟩
        .have R:s.fall<n:=by simpa using J
         go_wp2
         go_ret
         exact⟨Says.yes ⟨E5,G.out,⟨E5,E5⟩,⟨E5,E5⟩⟩,c.trans a⟩
       .go_wp2
        go_ret
        exact⟨Says.no λh=>by have:=h.2.2;simp at I;omega,c.trans a⟩
      .go_wp2
       go_ret
       exact⟨Says.yes ⟨E5,G.out,⟨E5,E5⟩,by simp at I;omega⟩,c.trans a⟩
    .go_wp2
     go_ret
     exact⟨Says.no λh=>by have:=h.2.2;omega,c.trans a⟩
 .go_enter func266,ntmps266
  go_wp2
  go_ret
  exact⟨Says.no λh=>by have:=h.1;omega,c⟩
