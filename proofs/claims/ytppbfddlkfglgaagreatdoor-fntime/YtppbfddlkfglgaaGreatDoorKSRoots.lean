import Derived.Test.YtppbfddlkfglgaaGreatDoorKVBfs
set_option maxRecDepth 100000
set_option maxHeartbeats 25600000
namespace Go.Proofs.YtppbfddlkfglgaaGreatDoor
open Go.RowKit Go.Proofs.Tryz
theorem CQ(w:QX)(asks:Nat)(on:Int)(cases:Nat)(els fall:Int)(bad:Bool)(give:QV)(j k:QW)(l m:Nat)(n:Int)(p:asks<=maxLen)(h2:cases<=maxLen)(q:give.size<=maxLen):
  Calls prog 70 #[.agg #[.slice j asks l,.b on,.slice k cases m,.b els,.b fall,.bool true,.bool bad,.string give],.b n] w
   λe w'=>Says e (asks=0/\on=0/\cases=0/\els=0/\fall=0/\give.size<=30)/\K_ w w':=by
 unfold maxLen at p h2 q;have a:K_ w (w.alloc (.cells #[.slice j asks l,.b on,.slice k cases m,.b els,.b fall,.bool true,.bool bad,.string give] 146)):=ai _ _;cases b:((asks:Int) == 0)
 .go_enter func70,ntmps70
  go_wp2
  go_ret
  exact⟨Says.no λh=>by simp at b;omega,a⟩
 .obtain rfl:asks=0:=by simp at b;omega
  clear b;cases c:(on == 0)
  .go_enter func70,ntmps70
   go_wp2
   go_ret
   exact⟨Says.no λh=>by simp at c;omega,a⟩
  .obtain rfl:on=0:=by simpa using c
   clear c;cases d:((cases:Int) == 0)
   .go_enter func70,ntmps70
    go_wp2
    go_ret
    exact⟨Says.no λh=>by simp at d;omega,a⟩
   .obtain rfl:cases=0:=by simp at d;omega
    clear d;cases f:(els == 0)
    .go_enter func70,ntmps70
     go_wp2
     go_ret
     exact⟨Says.no λh=>by simp at f;omega,a⟩
    .obtain rfl:els=0:=by simpa using f
     clear f;cases i:(fall == 0)
     .go_enter func70,ntmps70
      go_wp2
      go_ret
      exact⟨Says.no λh=>by simp at i;omega,a⟩
     .obtain rfl:fall=0:=by simpa using i
      clear i;by_cases r:(give.size:Int)<=30
      .go_enter func70,ntmps70
       go_wp2
       go_ret
       exact⟨Says.yes D7,a⟩
      .go_enter func70,ntmps70
       go_wp2
       go_ret
       exact⟨Says.no λh=>A7,a⟩
theorem zw(w:QX)(s:Xq)(f i:QW)(j l:Nat)(n:Int)(c:s.Fits)(x:0<=n/\n<=20)(m:Strs w f s.asks)(p:lK w i s.cases)(y:s.fin=false)(z:Hid (¬wX s n)):
  Calls prog 70 #[.agg #[.slice f s.asks.length j,.b s.on,.slice i s.cases.length l,.b s.els,.b s.fall,.bool s.fin,.bool s.bad,.string s.give],.b n] w
   λe w'=>e=.returned (.bool false)/\K_ w w':=by
 rw[y];obtain⟨K,L⟩:=x;have A:=c.asks;have B:=c.cases;have C:=c.give;unfold maxLen at A B C;have q:=uU s.give;have D:=Kz q;clear q;cases E:s.bad
 .have b:K_ w (w.alloc (.cells #[.slice f s.asks.length j,.b s.on,.slice i s.cases.length l,.b s.els,.b s.fall,.bool false,.bool false,.string s.give] 146)):=ai _ _;go_enter func70,ntmps70
  go_wp2_with fail
  .have F:Hid (s.give.size=0):=D.o.1 G7;refine (mJ _ f j s.asks c.asks c.fA (m.kept b)).mono ?_;rintro e w1 ⟨k,d⟩;have a:=b.trans d;rcases k.cases with⟨rfl,r⟩|⟨rfl,M⟩
   .have G:=Kz r;clear r k;obtain⟨N,O⟩:=d.rules;have H:=d.size;simp only[Qh] at H;clear b d;have P:=p.kept a;clear p m;by_cases Q:(s.cases.length:Int)<=5
    .by_cases R:0<=s.els
     .cases t:decide (s.els<=n-1)
      .have I:n-1<s.els:=by simpa using t
       go_wp2
       go_ret
       exact⟨rfl,a⟩
      .have I:s.els<=n-1:=by simpa using t
       by_cases S: -1<=s.fall
       .cases v:decide (s.fall<=n-1)
        .have J:n-1<s.fall:=by simpa using v
         go_wp2
         go_ret
         exact⟨rfl,a⟩
        .have J:s.fall<=n-1:=by simpa using v
         have h:¬(s.on=0\/(0<=s.on/\s.on<s.asks.length)):=λh=>z.out ⟨E,F.o,A7,G.o,A7,⟨A7,A7⟩,⟨A7,A7⟩,h⟩
         have T:(s.on != 0)=true:=bne_iff_ne.2 A7;by_cases U:0<=s.on
         .have V:s.asks.length-1<s.on:=A7;have W:decide (s.on<=(s.asks.length:Int)-1)=false:=D7;clear h;go_wp2
          go_ret
          exact⟨rfl,a⟩
         .clear h;go_wp2
          go_ret
          exact⟨rfl,a⟩
       .go_wp2
        go_ret
        exact⟨rfl,a⟩
     .go_wp2
      go_ret
      exact⟨rfl,a⟩
    .go_wp2
     go_ret
     exact⟨rfl,a⟩
   .clear k b d;go_wp2
    go_ret
    exact⟨rfl,a⟩
  .go_ret
   exact⟨rfl,b⟩
  .go_ret
   exact⟨rfl,b⟩
 .go_enter func70,ntmps70
  go_wp2
  go_ret
  exact⟨rfl,ai _ _⟩
theorem wC(w:QX)(s:Xq)(B E:QW)(F J:Nat)(n:Int)(l:s.Fits)(U:0<=n/\n<=20)(K:Strs w B s.asks)(L:lK w E s.cases)(V:s.fin=false)(W:wX s n):
  Calls prog 70 #[.agg #[.slice B s.asks.length F,.b s.on,.slice E s.cases.length J,.b s.els,.b s.fall,.bool s.fin,.bool s.bad,.string s.give],.b n] w
   λe w'=>Says e (wN s n)/\K_ w w':=by
 rw[V];obtain⟨a4,a5⟩:=U;have X:=l.asks;have Y:=l.cases;have Z:=l.give;unfold maxLen at X Y Z;have M:=uU s.give;have N:=Kz M;clear M;obtain⟨a0,O,a6,P,a7,⟨a8,a9⟩,⟨b0,b1⟩,Q⟩:=W;have b2:s.give.toList=[]:=N.o.2 O;have HN:=Kz P;rw[a0];have G:K_ w (w.alloc (.cells #[.slice B s.asks.length F,.b s.on,.slice E s.cases.length J,.b s.els,.b s.fall,.bool false,.bool false,.string s.give] 146)):=ai _ _;clear O P N;have b3:s.els<=n-1:=A7;have b4:s.fall<=n-1:=A7;have R:=Kz Q;clear Q;go_enter func70,ntmps70
 go_wp2_with fail
 refine (mJ _ B F s.asks l.asks l.fA (K.kept G)).mono ?_;rintro e w1 ⟨S,C⟩;have d:=G.trans C;rcases S.cases with⟨rfl,a1⟩|⟨rfl,a2⟩
 .clear a1 S;obtain⟨b5,b6⟩:=C.rules;have a3:=C.size;simp only[Qh] at a3;clear G C;have T:=L.kept d;clear L K;by_cases D:s.on=0
  .have ho:(s.on != 0)=false:=by rw[D];rfl
   clear D;go_wp2
   go_loop [5] (λm=>∃k:Nat,k<=s.cases.length/\m=.b k/\∀j,j<k->eU s n j) λm=>s.cases.length-(intOf m).toNat
   case atStart=>exact⟨0,Py _,rfl,λj p=>aS p⟩
   case round=>
    obtain⟨k,hk,rfl,r⟩:=hrel;have t:=Kz r;clear r;by_cases a:k<s.cases.length
    .obtain⟨b,o,rfl,hb,f⟩:=T k a;have v:(s.cases.getD k bQ.zero).text.size<=maxLen:=(l.dK _ (by simp[List.getD,a])).1;obtain⟨c,q⟩:=aj (s.cases.getD k bQ.zero);rw[<-q] at f v;have i:=Kz q;clear q;unfold maxLen at v;have H:=f 0 _ rfl;have c1:=f 1 _ rfl;simp only[Qp] at H;clear f;by_cases d1:(c.text.size:Int)<=200
     .by_cases d2:0<=c.goto
      .cases x:decide (c.goto<=n-1)
       .have I:n-1<c.goto:=by simpa using x
        go_wp2
        go_ret
        exact⟨Says.no λh=>by have:=h k a;unfold eU at this;rw[<-i.o] at this;obtain⟨y,z,A⟩:=this;omega,d⟩
       .have I:c.goto<=n-1:=by simpa using x
        go_wp2
        go_round
        case rel=>
         refine⟨k+1,A7,C8,λj p=>?_⟩;by_cases e:j=k
         .subst e;unfold eU;rw[<-i.o];exact⟨A7,A7,A7⟩
         .exact bE t j A7
        case measure=>simp[intOf];omega
      .go_wp2
       go_ret
       exact⟨Says.no λh=>by have:=h k a;unfold eU at this;rw[<-i.o] at this;obtain⟨y,z,A⟩:=this;omega,d⟩
     .go_wp2
      go_ret
      exact⟨Says.no λh=>by have:=h k a;unfold eU at this;rw[<-i.o] at this;obtain⟨y,z,A⟩:=this;omega,d⟩
    .go_wp2
     go_ret
     exact⟨Says.yes λj p=>bE t j A7,d⟩
  .have ho:(s.on != 0)=true:=bne_iff_ne.2 D;have o1:0<=s.on:=by have:=R.o;omega
   have o3:s.on<=(s.asks.length:Int)-1:=by have:=R.o;omega
   clear D;go_wp2
   go_loop [5] (λm=>∃k:Nat,k<=s.cases.length/\m=.b k/\∀j,j<k->eU s n j) λm=>s.cases.length-(intOf m).toNat
   case atStart=>exact⟨0,Py _,rfl,λj p=>aS p⟩
   case round=>
    obtain⟨k,hk,rfl,r⟩:=hrel;have t:=Kz r;clear r;by_cases a:k<s.cases.length
    .obtain⟨b,o,rfl,hb,f⟩:=T k a;have v:(s.cases.getD k bQ.zero).text.size<=maxLen:=(l.dK _ (by simp[List.getD,a])).1;obtain⟨c,q⟩:=aj (s.cases.getD k bQ.zero);rw[<-q] at f v;have i:=Kz q;clear q;unfold maxLen at v;have H:=f 0 _ rfl;have c1:=f 1 _ rfl;simp only[Qp] at H;clear f;by_cases d1:(c.text.size:Int)<=200
     .by_cases d2:0<=c.goto
      .cases x:decide (c.goto<=n-1)
       .have I:n-1<c.goto:=by simpa using x
        go_wp2
        go_ret
        exact⟨Says.no λh=>by have:=h k a;unfold eU at this;rw[<-i.o] at this;obtain⟨y,z,A⟩:=this;omega,d⟩
       .have I:c.goto<=n-1:=by simpa using x
        go_wp2
        go_round
        case rel=>
         refine⟨k+1,A7,C8,λj p=>?_⟩;by_cases e:j=k
         .subst e;unfold eU;rw[<-i.o];exact⟨A7,A7,A7⟩
         .exact bE t j A7
        case measure=>simp[intOf];omega
      .go_wp2
       go_ret
       exact⟨Says.no λh=>by have:=h k a;unfold eU at this;rw[<-i.o] at this;obtain⟨y,z,A⟩:=this;omega,d⟩
     .go_wp2
      go_ret
      exact⟨Says.no λh=>by have:=h k a;unfold eU at this;rw[<-i.o] at this;obtain⟨y,z,A⟩:=this;omega,d⟩
    .go_wp2
     go_ret
     exact⟨Says.yes λj p=>bE t j A7,d⟩
 .exact QK HN.o a2
theorem yD(w:QX)(n a b:Int)(c:a<=n)(h2:n<=b):
  Calls prog 29 #[.b n,.b a,.b b] w λe w'=>e=.returned (.bool true)/\w'=w:=by
 go_enter func29,ntmps29
 go_wp2
 go_ret
 exact⟨rfl,rfl⟩
theorem B_(w:QX)(s:Xq)(b c:QW)(f i:Nat)(n:Int)(d:s.Fits)(l:0<=n/\n<=20)(m:Strs w b s.asks)(p:lK w c s.cases):
  Calls prog 70 #[.agg #[.slice b s.asks.length f,.b s.on,.slice c s.cases.length i,.b s.els,.b s.fall,.bool s.fin,.bool s.bad,.string s.give],.b n] w
   λe w'=>Says e (lQ s n)/\K_ w w':=by
 cases a:s.fin
 .rw[<-a];by_cases j:wX s n
  .refine (wC w s b c f i n d l m p a j).mono ?_;rintro e w' ⟨h,k⟩;exact⟨h.congr ⟨λh=>⟨λe=>(by rw[a] at e;cases e),λ_=>⟨j,h⟩⟩,λh=>(h.2 a).2⟩,k⟩
  .refine (zw w s b c f i n d l m p a j).mono ?_;rintro e w' ⟨rfl,k⟩;exact⟨Says.no λh=>j (h.2 a).1,k⟩
 .refine (CQ w s.asks.length s.on s.cases.length s.els s.fall s.bad s.give b c f i n d.asks d.cases d.give).mono ?_;rintro e w' ⟨h,k⟩;exact⟨h.congr ⟨λh=>⟨λ_=>h,λe=>(by rw[a] at e;cases e)⟩,λh=>h.1 a⟩,k⟩
theorem gp(w:QX)(cost:Int)(a:QW)(cap:Nat)(l:List Xq)(F:l.length<=maxLen)(G:∀s∈l,s.Fits)(H:Steps w a l):
  Calls prog 28 #[.agg #[.b cost,.slice a l.length cap]] w λe w'=>Says e (iF ⟨cost,l⟩)/\K_ w w':=by
 unfold maxLen at F;have d:K_ w (w.alloc (.cells #[.b cost,.slice a l.length cap] 62)):=ai _ _;by_cases I:1<=cost
 .by_cases J:cost<=20
  .by_cases a0:(1:Int)<=l.length
   .by_cases a4:(l.length:Int)<=20
    .go_enter func28,ntmps28
     go_wp2_with (go_at_call 29;refine (yD _ _ _ _ A7 A7).mono ?_;rintro e w' ⟨rfl,rfl⟩)
     go_loopw [4] (λi wr=>∃k:Nat,k<=l.length/\i=.b k/\K_ (w.alloc (.cells #[.b cost,.slice a l.length cap] 62)) wr/\∀j,j<k->lQ (l.getD j Xq.zero) l.length) λi _=>l.length-(intOf i).toNat
     case atStart=>exact⟨0,Py _,rfl,K_.refl _,λj m=>aS m⟩
     case round=>
      obtain⟨k,hk,rfl,f,v⟩:=hrel;have x:=Kz v;clear v;obtain⟨K,L⟩:=f.rules;have M:=f.size;simp only[Qh] at M;by_cases n:k<l.length
      .obtain⟨b,o,cs,rfl,hb,c,N,O,P,Q,rfl,p,q,a1⟩:=(H.kept d).kept f k n;have y:=G (l.getD k Xq.zero) (by simp[List.getD,n]);obtain⟨s,r⟩:=aj (l.getD k Xq.zero);rw[<-r] at c y p q;have z:=Kz r;clear r;have A:=c 0 _ rfl;have R:=c 1 _ rfl;have S:=c 2 _ rfl;have T:=c 3 _ rfl;have U:=c 4 _ rfl;have V:=c 5 _ rfl;have W:=c 6 _ rfl;have X:=c 7 _ rfl;simp only[Qp] at A;clear c;go_wp2_with fail
       refine (B_ _ s N P O Q _ y ⟨A7,A7⟩ p q).mono ?_;rintro e w1 ⟨t,B⟩;have C:=f.trans B;clear A R S T U V W X p q f B K L;rcases t.cases with⟨rfl,D⟩|⟨rfl,E⟩
       .have Y:=Kz D;clear D t;go_wp2
        go_roundw
        case rel=>
         refine⟨k+1,A7,C8,C,λj m=>?_⟩;by_cases e:j=k
         .subst e;rw[<-z.o];exact Y.o
         .exact bE x j A7
        case measure=>simp[intOf];omega
       .have Z:=Kz E;clear E t;go_wp2
        go_ret
        exact⟨Says.no λh=>Z.o (by rw[z.o];exact h.2.2 k n),d.trans C⟩
      .go_wp2
       go_ret
       exact⟨Says.yes ⟨⟨I,J⟩,⟨by show 1<=l.length;omega,by show l.length<=20;omega⟩,λj (m:j<l.length)=>bE x j A7⟩,d.trans f⟩
    .go_enter func28,ntmps28
     go_wp2
     go_ret
     exact⟨Says.no λh=>by have:=h.2.1.2;simp at this;omega,d⟩
   .go_enter func28,ntmps28
    go_wp2
    go_ret
    exact⟨Says.no λh=>by have:=h.2.1.1;simp at this;omega,d⟩
  .go_enter func28,ntmps28
   go_wp2
   go_ret
   exact⟨Says.no λh=>by have:=h.1.2;simp at this;omega,d⟩
 .go_enter func28,ntmps28
  go_wp2
  go_ret
  exact⟨Says.no λh=>by have:=h.1.1;simp at this;omega,d⟩
theorem Tryz.EU :(prog.info? 50).map (λi=>(i.zero,i.size,i.bytes))=some (some (.agg #[.bool false,.string ByteArray.empty]),2,24):=C9
def dM(l:List Xz):List QY:=(l.map Xz.cells).flatten
theorem uP(l:List Xz):(dM l).length=l.length*2:=by
 induction l with
 |nil=>rfl
 |cons c r ih=>simp only[dM,List.map_cons,List.flatten_cons,Qi,Qn] at ih⊢;rw[ih];simp[Xz.cells];omega
theorem qy(l:List Xz)(c:Xz):dM (l++[c])=dM l++c.cells:=by simp[dM]
theorem rE :∀(l:List Xz)(i j:Nat),i<l.length->j<2->(dM l)[i*2+j]? = ((l.getD i Xz.zero).cells)[j]?
 |[],_,_,h,_=>aS h
 |c :: r,0,j,_,hj=>by
  have e:dM (c :: r)=c.cells++dM r:=rfl;rw[e,Nat.zero_mul,Qb,Qx (by simpa[Xz.cells] using hj)]
  rfl
 |c :: r,i+1,j,h,hj=>by
  have e:dM (c :: r)=c.cells++dM r:=rfl;have b:c.cells.length=2:=rfl;rw[e,Qy (by rw[b];omega),b,show (i+1)*2+j-2=i*2+j by omega,rE r i j (by simpa using h) hj]
  rfl
def Ov(w:QX)(a:QW)(l:List Xz):Prop:=
 l=[]\/∃b cur fr,a=some ⟨b,0,none⟩/\w.heap[b]? =some (Obj.cells cur 50 fr)/\∀i,i<l.length->w.rangeAt b (i*2) (l.getD i Xz.zero).cells
theorem Ov.answers{w:QX}{a:QW}{l:List Xz}(h:Ov w a l):fI w a l:=by
 rcases h with rfl|⟨c,j,k,d,e,f⟩
 .intro i b;simp at b
 .exact λi b=>⟨c,0,d,aP e,by rw[Qb];exact f i b⟩
theorem kG{w:QX}{base:Nat}{v:QY}{n:Nat}{l:List Xz}(h:w.ownsRow base 50 2 v n (dM l)):∃a cap,v=.slice a l.length cap/\l.length<=cap/\Ov w a l:=by
 have d:n=l.length:=by have:=h.1;rw[uP] at this;omega
 subst d;rcases h.2 with⟨rfl,b⟩|⟨g,cap,e,rfl,q,f,k,_,_,_⟩
 .exact⟨none,0,by rw[b],A7,.inl (QO b)⟩
 .refine⟨_,cap,rfl,k,.inr ⟨g,e,_,rfl,f,λi m j u c=>?_⟩⟩;have p:j<2:=by have:=(PG.1 c).1;simpa[Xz.cells] using this
  have:=h.cells (g:=g) rfl (i*2+j) u (by rw[rE l i j m p];exact c);rw[Qo,Qb] at this;exact this
def fJ(l:List QV):Prop:=1<=l.length/\l.length<=10/\t_ l
theorem MS(w:QX)(n a b:Int)(h:n<a\/b<n):
  Calls prog 29 #[.b n,.b a,.b b] w λe w'=>e=.returned (.bool false)/\w'=w:=by
 by_cases d:a<=n
 .have f:¬n<=b:=A7;go_enter func29,ntmps29
  go_wp2
  go_ret
  exact⟨rfl,rfl⟩
 .go_enter func29,ntmps29
  go_wp2
  go_ret
  exact⟨rfl,rfl⟩
theorem zR(w:QX)(a:QW)(cap:Nat)(l:List QV)(j:l.length<=maxLen)(k:∀s∈l,s.size<=maxLen)(m:Strs w a l):
  Calls prog 12 #[.slice a l.length cap] w λe w'=>Says e (fJ l)/\K_ w w':=by
 by_cases h:1<=l.length/\l.length<=10
 .go_enter func12,ntmps12
  go_wp2_with (go_at_call 29;refine (yD _ _ _ _ A7 A7).mono ?_;rintro e w' ⟨rfl,rfl⟩)
  refine (mJ _ a cap l j k m).mono ?_;rintro e w1 ⟨b,d⟩;rcases b.cases with⟨rfl,f⟩|⟨rfl,i⟩
  .have c:=Kz f;clear f b;go_wp2
   go_ret
   exact⟨Says.yes ⟨h.1,h.2,c.o⟩,d⟩
  .have c:=Kz i;clear i b;go_wp2
   go_ret
   exact⟨Says.no λg=>c.o g.2.2,d⟩
 .go_enter func12,ntmps12
  go_wp2_with (go_at_call 29;refine (MS _ _ _ _ A7).mono ?_;rintro e w' ⟨rfl,rfl⟩)
  go_ret
  exact⟨Says.no λg=>h ⟨g.1,g.2.1⟩,K_.refl _⟩
theorem yt(w:QX)(a:QW)(cap:Nat)(l:List QV)(z:l.length<=maxLen)(R:l.length<=cap)(G:∀s∈l,s.size<=maxLen)(A:Strs w a l):
  Calls prog 39 #[.slice a l.length cap] w λe w'=>Says e (fJ l)/\K_ w w':=by
 have H:=z;unfold maxLen at H;by_cases I:(l.length:Int)<1
 .go_enter func39,ntmps39
  go_wp2
  go_ret
  exact⟨Says.no λg=>by have:=g.1;omega,K_.refl _⟩
 .by_cases J:(10:Int)<l.length
  .go_enter func39,ntmps39
   go_wp2
   go_ret
   exact⟨Says.no λg=>by have:=g.2.1;omega,K_.refl _⟩
  .have K:decide ((l.length:Int)<1)=false:=by simpa using I
   have L:decide ((10:Int)<l.length)=false:=by simpa using J
   go_enter func39,ntmps39
   go_wp2
   clear K L;go_loopw [15] (λi wr=>∃k:Nat,k<=l.length/\i=.b k/\K_ w wr/\∀j,j<k->Dc l j) λi _=>l.length-(intOf i).toNat
   case atStart=>exact⟨0,Py _,rfl,K_.refl _,λj t=>aS t⟩
   case round=>
    obtain⟨k,S,rfl,d,B⟩:=hrel;have C:=Kz B;clear B;by_cases p:k<l.length
    .obtain⟨b,o,rfl,M,D⟩:=A.kept d k p;have E:(l.getD k ByteArray.empty).size<=maxLen:=G _ (by simp[List.getD,p]);obtain⟨F,v⟩:=aj (l.getD k ByteArray.empty);rw[<-v] at D E;have q:=Kz v;clear v;go_wp2_with fail
     refine (ny _ F E).mono ?_;rintro e w1 ⟨c,x⟩;have r:=d.trans x;have y:=A.kept r;clear D M;rcases c.cases with⟨rfl,f⟩|⟨rfl,h⟩
     .have N:=Kz f;clear f c d x;have T:k<=cap:=A7;go_wp2_with fail
      refine (rP _ _ cap k l F z A7 y).mono ?_;rintro e U ⟨c,rfl⟩;rcases c.cases with⟨rfl,f⟩|⟨rfl,h⟩
      .have m:=Kz f;clear f c y;go_wp2
       go_ret
       exact⟨Says.no λn=>by obtain⟨i,O,e⟩:=m.o;exact (n.2.2 k p).2 i O (by rw[e,q.o]),r⟩
      .have m:=Kz h;clear h c y;go_wp2
       go_roundw
       case rel=>
        refine⟨k+1,A7,C8,r,λj t=>?_⟩;by_cases e:j=k
        .subst e;exact⟨by rw[<-q.o];exact N.o,λP Q n=>m.o ⟨P,Q,by rw[n,q.o]⟩⟩
        .exact bE C j A7
       case measure=>simp[intOf];omega
     .have m:=Kz h;clear h c d x;go_wp2
      go_ret
      exact⟨Says.no λn=>m.o (by rw[q.o];exact (n.2.2 k p).1),r⟩
    .go_wp2
     go_ret
     exact⟨Says.yes ⟨A7,A7,λj t=>bE C j A7⟩,d⟩
