import Derived.Test.YtjbipapbckajnaaGreatDoorProg
import Derived.Test.YtjbipapbckajnaaGreatDoorKVBfs
import Derived.WalkSpells
import Derived.WalkLawsBesides
import Derived.Deep.RegionWith
set_option maxRecDepth 100000
set_option maxHeartbeats 25600000
namespace Go.Proofs.YtjbipapbckajnaaGreatDoor
open Go.RowKit Go.Proofs.Tryz
theorem yN(w:NI)(s:NG):∃cap C fr,(convert 9 22 (.string s)).run prog w= .ok (.b w.heap.size s.size cap) (w.drew.alloc (.cells C 5 fr))/\
  ∀j (h:j<s.size),(w.alloc (.cells C 5 fr)).cell? ⟨w.heap.size,j,none⟩=some (.int .u8 (s[j].toNat:Int)):=by
 refine⟨_,_,_,run_bytes_of_string (P:=prog) w 9 22 5 s underlying9 underlying22 underlying5,λj h=>?_⟩;rw[World.cell?_alloc_mark];unfold bytesRow;have b:j<s.data.size:=h;rw[Array.getElem?_append_left (by simpa using b)];simp only[Array.getElem?_map,Array.getElem?_eq_getElem b,Option.map_some]
 rfl
theorem m_(w:NI)(s:NG)(m:s.size<=maxLen):
  Calls prog 63 #[.string s] w λe w'=>Says e (je s)/\w'=w:=by
 unfold maxLen at m;by_cases n:(1:Int)<=s.size
 .by_cases p:(s.size:Int)<=20
  .cases c:(s.toList == [45])
   .go_enter func63,ntmps63
    go_wp2
    go_loop [3] (λi=>∃k:Nat,k<=s.size/\i= .a k/\∀j (h:j<s.size),j<k->iK s[j]) (λi=>s.size-(intOf i).toNat)
    case atStart=>exact⟨0,Mg _,rfl,λj _ a=>aO a⟩
    case round=>
     obtain⟨k,q,rfl,d⟩:=hrel;have f:=Kz d;clear d;by_cases b:k<s.size
     .by_cases r:(s[k].toNat:Int)<33
      .go_wp2
       go_ret
       exact⟨Says.no λh=>by have:=h.2.2.2 k b;unfold iK at this;omega,rfl⟩
      .by_cases t:126<(s[k].toNat:Int)
       .go_wp2
        go_ret
        exact⟨Says.no λh=>by have:=h.2.2.2 k b;unfold iK at this;omega,rfl⟩
       .cases l:((s[k].toNat:Int) == 44)
        .go_wp2
         go_round
         case rel=>
          refine⟨k+1,E5,F3,λj a v=>?_⟩;by_cases e:j=k
          .subst e;exact⟨E5,E5,by simpa using l⟩
          .exact bf f j a E5
         case measure=>simp[intOf];omega
        .go_wp2
         go_ret
         exact⟨Says.no λh=>by have:=h.2.2.2 k b;unfold iK at this;simp at l;omega,rfl⟩
     .go_wp2
      go_ret
      exact⟨Says.yes ⟨E5,E5,c,λj a=>bf f j a E5⟩,rfl⟩
   .go_enter func63,ntmps63
    go_wp2
    go_ret
    exact⟨Says.no λh=>by have:=h.2.2.1;simp[c] at this,rfl⟩
  .go_enter func63,ntmps63
   go_wp2
   go_ret
   exact⟨Says.no λh=>by have:=h.2.1;omega,rfl⟩
 .go_enter func63,ntmps63
  go_wp2
  go_ret
  exact⟨Says.no λh=>by have:=h.1;omega,rfl⟩
theorem lX(w:NI)(s:NG)(n:s.size<=maxLen):
  Calls prog 97 #[.string s] w λe w'=>Says e (je s)/\K_ w w':=by
 unfold maxLen at n;by_cases r:(1:Int)<=s.size
 .by_cases t:(s.size:Int)<=20
  .cases c:(s.toList == [45])
   .obtain⟨v,C,p,q,d⟩:=yN w s;go_enter func97,ntmps97
    go_wp2
    clear q;go_loopw [20] (λi wr=>∃k:Nat,k<=s.size/\i= .a k/\(∀j (h:j<s.size),j<k->iK s[j])/\wr= (w.alloc (.cells C 5 p)).drew) (λi _=>s.size-(intOf i).toNat)
    case atStart=>exact⟨0,Mg _,rfl,λj _ a=>aO a,rfl⟩
    case round=>
     obtain⟨k,x,rfl,f,rfl⟩:=hrel;have l:=Kz f;clear f;by_cases b:k<s.size
     .have y:=d k b;clear d;by_cases z:(s[k].toNat:Int)<33
      .go_wp2
       go_ret
       exact⟨Says.no λh=>by have:=h.2.2.2 k b;unfold iK at this;omega,(ah _ _).drew⟩
      .by_cases A:126<(s[k].toNat:Int)
       .go_wp2
        go_ret
        exact⟨Says.no λh=>by have:=h.2.2.2 k b;unfold iK at this;omega,(ah _ _).drew⟩
       .cases m:((s[k].toNat:Int) == 44)
        .go_wp2
         go_roundw
         case rel=>
          refine⟨k+1,E5,F3,λj a B=>?_,by first | rfl | trivial⟩;by_cases e:j=k
          .subst e;exact⟨E5,E5,by simpa using m⟩
          .exact bf l j a E5
         case measure=>simp[intOf];omega
        .go_wp2
         go_ret
         exact⟨Says.no λh=>by have:=h.2.2.2 k b;unfold iK at this;simp at m;omega,(ah _ _).drew⟩
     .go_wp2
      go_ret
      exact⟨Says.yes ⟨E5,E5,c,λj a=>bf l j a E5⟩,(ah _ _).drew⟩
   .go_enter func97,ntmps97
    go_wp2
    go_ret
    exact⟨Says.no λh=>by have:=h.2.2.1;simp[c] at this,K_.refl _⟩
  .go_enter func97,ntmps97
   go_wp2
   go_ret
   exact⟨Says.no λh=>by have:=h.2.1;omega,K_.refl _⟩
 .go_enter func97,ntmps97
  go_wp2
  go_ret
  exact⟨Says.no λh=>by have:=h.1;omega,K_.refl _⟩
theorem lC(w:NI)(a:NH)(J:Nat)(l:List NG)(K:l.length<=maxLen)(L:∀s∈l,s.size<=maxLen)(p:Strs w a l):
  Calls prog 66 #[.slice a l.length J] w λe w'=>Says e (rV l)/\K_ w w':=by
 unfold maxLen at K;go_enter func66,ntmps66
 go_wp2
 go_loopw [3] (λr wr=>∃k:Nat,k<=l.length/\r= .a k/\K_ w wr/\∀j,j<k->je (l.getD j ByteArray.empty)/\∀m,m<j->l.getD m ByteArray.empty≠l.getD j ByteArray.empty) (λr _=>l.length-(intOf r).toNat)
 case atStart=>exact⟨0,Mg _,rfl,K_.refl _,λj c=>aO c⟩
 case round=>
  obtain⟨k,T,rfl,d,z⟩:=hrel;have A:=Kz z;clear z;by_cases f:k<l.length
  .obtain⟨b,o,rfl,U,B⟩:=p.kept d k f;have C:(l.getD k ByteArray.empty).size<=maxLen:=L _ (by simp[List.getD,f]);obtain⟨s,v⟩:=aj (l.getD k ByteArray.empty);rw[<-v] at B C;have n:=Kz v;clear v;go_wp2_with fail
   refine (m_ _ s C).mono ?_;rintro e V ⟨D,rfl⟩;rcases D.cases with⟨rfl,E⟩|⟨rfl,M⟩
   .have N:=Kz E;clear E D;go_wp2
    clear B;go_loopw [4] (λm wr=>∃q:Nat,q<=k/\m= .a q/\K_ w wr/\∀t,t<q->l.getD t ByteArray.empty≠s) (λm _=>k-(intOf m).toNat)
    case atStart=>exact⟨0,Mg _,rfl,d,λj c=>aO c⟩
    case round=>
     obtain⟨q,W,rfl,h,F⟩:=hrel;have G:=Kz F;clear F d;by_cases O:q<k
     .obtain⟨P,Q,i,X,R⟩:=p.kept h k f;simp only[MV,ND,and_true] at i;obtain⟨rfl,rfl⟩:=i;obtain⟨P,Q,i,Y,S⟩:=p.kept h q E5;simp only[MV,ND,and_true] at i;obtain⟨rfl,rfl⟩:=i;rw[<-n.o] at R;obtain⟨t,x⟩:=aj (l.getD q ByteArray.empty);rw[<-x] at S;have H:=Kz x;clear x;cases I:(t.toList == s.toList)
      .go_wp2
       go_region
       all_goals
        go_wp2
        go_roundw
        case rel=>
         refine⟨q+1,E5,F3,by repeat (first | apply K_.drew | exact h),λj c=>?_⟩;by_cases e:j=q
         .subst e;rw[<-H.o];exact rX I
         .exact bf G j E5
        case measure=>simp[intOf];omega
      .go_wp2
       go_region
       all_goals
        go_wp2
        go_ret
        exact⟨Says.no λy=>(y k f).2 q O (by rw[<-H.o,<-n.o];exact oZ.1 I),by repeat (first | apply K_.drew | exact h)⟩
     .go_wp2
      go_roundw
      case rel=>
       refine⟨k+1,E5,F3,h,λj c=>?_⟩;by_cases e:j=k
       .subst e;rw[<-n.o];exact⟨N.o,λm Z=>bf G m E5⟩
       .exact bf A j E5
      case measure=>simp[intOf];omega
   .go_wp2
    go_ret
    exact⟨Says.no λy=>M (by rw[n.o];exact (y k f).1),d⟩
  .go_wp2
   go_ret
   exact⟨Says.yes λj c=>bf A j E5,d⟩
theorem Tryz.Ba :(prog.info? 9).map (λi=>(i.zero,i.size,i.bytes))=some (some (.string ByteArray.empty),1,16):=F4
structure Qz where
 name:NG
 cost:Int
 steps:List Xq
def Qz.zero :Qz:=⟨ByteArray.empty,0,[]⟩
def Qz.cells(d:Qz)(a:NH)(cap:Nat):List NJ:=[.string d.name,.a d.cost,.slice a d.steps.length cap]
def AL(w:NI)(cs:List NJ)(d:Qz):Prop:=∃a cap,cs=d.cells a cap/\Steps w a d.steps
variable {w' : NI}
theorem AL.kept{w:NI}{cs:List NJ}{d:Qz}(h:AL w cs d)(k:K_ w w'):AL w' cs d:=by
 obtain⟨a,c,e,f⟩:=h;exact⟨a,c,e,f.kept k⟩
def bT(w:NI)(a:NH)(l:List Qz):Prop:=
 ∀i,i<l.length->∃b o cs,a=some ⟨b,o,none⟩/\b<w.heap.size/\w.rangeAt b (o+i*3) cs/\AL w cs (l.getD i Qz.zero)
theorem bT.kept{w:NI}{a:NH}{l:List Qz}(h:bT w a l)(k:K_ w w'):bT w' a l:=by
 intro i c;obtain⟨d,o,e,f,b,j,m⟩:=h i c;exact⟨d,o,e,f,Mf b k.size,k.range b j,m.kept k⟩
structure Qz.Fits (d:Qz):Prop where
 name:d.name.size<=maxLen
 cost:In64 d.cost
 steps:d.steps.length<=maxLen
 each:∀s∈d.steps,s.Fits
theorem size_setCells(g:Nat):∀(vs:List NJ) (o:Nat) (w:NI),(w.setCells g o vs).heap.size=w.heap.size
 | [],_,_=>rfl
 | v :: r,o,w=>by rw[World.setCells,size_setCells g r (o+1),size_setCell]
theorem Tryz.mP :(prog.info? 88).map (λi=>(i.zero,i.size,i.bytes))=some (some (.agg #[.string ⟨#[]⟩,.a 0,M0]),3,48):=F4
theorem Tryz.lT :(prog.info? 25).map (·.size)=some 1:=F4
def Has(l:List NG)(v:NG):Prop:=∃i,i<l.length/\l.getD i ByteArray.empty=v
theorem Gp(w:NI)(a:NH)(q:Nat)(l:List NG)(v:NG)(s:l.length<=maxLen)(t:Strs w a l):
  Calls prog 142 #[.slice a l.length q,.string v] w λe w'=>(∃r,e= .returned (.a r)/\(0<=r↔Has l v))/\w'=w:=by
 unfold maxLen at s;go_enter func142,ntmps142
 go_wp2
 go_loop [8] (λi=>∃k:Nat,k<=l.length/\i= .a k/\∀j,j<k->l.getD j ByteArray.empty≠v) (λi=>l.length-(intOf i).toNat)
 case atStart=>exact⟨0,Mg _,rfl,λj d=>aO d⟩
 case round=>
  obtain⟨k,z,rfl,f⟩:=hrel;have h:=Kz f;clear f;by_cases m:k<l.length
  .obtain⟨b,o,rfl,A,x⟩:=t k m;obtain⟨y,c⟩:=aj (l.getD k ByteArray.empty);rw[<-c] at x;have n:=Kz c;clear c;cases p:(v.toList == y.toList)
   .go_wp2
    go_round
    case rel=>
     refine⟨k+1,E5,F3,λj d=>?_⟩;by_cases e:j=k
     .subst e;rw[<-n.o];exact (rX p).symm
     .exact bf h j E5
    case measure=>simp[intOf];omega
   .go_wp2
    go_ret
    exact⟨⟨_,rfl,⟨λ_=>⟨k,m,by rw[<-n.o];exact (oZ.1 p).symm⟩,λ_=>E5⟩⟩,rfl⟩
  .go_wp2
   go_ret
   exact⟨⟨_,rfl,⟨λB=>E5,λ⟨i,C,e⟩=>Nv e (bf h i E5)⟩⟩,rfl⟩
theorem AO(w:NI)(a:NH)(d:Nat)(l:List NG)(v:NG)(i:l.length<=maxLen)(j:Strs w a l):
  Calls prog 98 #[.slice a l.length d,.string v] w λe w'=>Says e (Has l v)/\w'=w:=by
 go_enter func98,ntmps98
 go_wp2_with fail
 refine (Gp _ a d l v i j).mono ?_;rintro e n ⟨⟨r,rfl,f⟩,rfl⟩;have h:=Kz f;clear f;by_cases c:0<=r
 .have k:decide (0<=r)=true:=by simpa using c
  go_wp2
  go_ret
  exact⟨Says.congr (p:=True) (Says.yes trivial) ⟨λ_=>h.o.1 c,λ_=>trivial⟩,rfl⟩
 .have k:decide (0<=r)=false:=by simpa using c
  go_wp2
  go_ret
  exact⟨Says.congr (p:=False) (Says.no id) ⟨False.elim,λm=>by have:=h.o.2 m;omega⟩,rfl⟩
theorem qU(w:NI)(asks:Nat)(on:Int)(cases:Nat)(els fall:Int)(fin bad:Bool)(give:NG)(i j:NH)(k l:Nat)(m:asks<=maxLen)(h2:cases<=maxLen)(n:give.size<=maxLen):
  Calls prog 258 #[.agg #[.slice i asks k,.a on,.slice j cases l,.a els,.a fall,.bool fin,.bool bad,.string give]] w
   λe w'=>Says e (asks=0/\on=0/\cases=0/\els=0/\fall=0/\give.size<=30)/\K_ w w':=by
 unfold maxLen at m h2 n;cases a:((asks:Int) == 0)
 .go_enter func258,ntmps258
  go_wp2
  all_goals
   go_ret
   exact⟨Says.no λh=>by simp at a;omega,ah _ _⟩
 .obtain rfl:asks=0:=by simp at a;omega
  clear a;cases b:(on == 0)
  .go_enter func258,ntmps258
   go_wp2
   all_goals
    go_ret
    exact⟨Says.no λh=>by simp at b;omega,ah _ _⟩
  .obtain rfl:on=0:=by simpa using b
   clear b;cases c:((cases:Int) == 0)
   .go_enter func258,ntmps258
    go_wp2
    go_ret
    exact⟨Says.no λh=>by simp at c;omega,ah _ _⟩
   .obtain rfl:cases=0:=by simp at c;omega
    clear c;cases d:(els == 0)
    .go_enter func258,ntmps258
     go_wp2
     go_ret
     exact⟨Says.no λh=>by simp at d;omega,ah _ _⟩
    .obtain rfl:els=0:=by simpa using d
     clear d;cases f:(fall == 0)
     .go_enter func258,ntmps258
      go_wp2
      go_ret
      exact⟨Says.no λh=>by simp at f;omega,ah _ _⟩
     .obtain rfl:fall=0:=by simpa using f
      clear f;by_cases p:(give.size:Int)<=30
      .go_enter func258,ntmps258
       go_wp2
       go_ret
       exact⟨Says.yes F6,ah _ _⟩
      .go_enter func258,ntmps258
       go_wp2
       go_ret
       exact⟨Says.no λh=>E5,ah _ _⟩
theorem Strs.take{w:NI}{a:NH}{l:List NG}(h:Strs w a l)(k:Nat):Strs w a (l.take k):=by
 intro i c;have d:i<l.length:=by simp at c;omega
 have e:i<k:=by simp at c;omega
 obtain⟨b,o,f,j,m⟩:=h i d;refine⟨b,o,f,j, ?_⟩;rw[m];simp[List.getD,e]
theorem GY{l:List NG}{k:Nat}(d:k<=l.length){v:NG}:Has (l.take k) v↔∃i,i<k/\l.getD i ByteArray.empty=v:=by
 unfold Has;constructor
 .rintro⟨i,a,e⟩;have c:i<k:=by simp at a;omega
  exact⟨i,c,by rw[<-e];simp[List.getD,c]⟩
 .rintro⟨i,a,e⟩;exact⟨i,F6,by rw[<-e];simp[List.getD,a]⟩
theorem qf(w:NI)(a:NH)(b k:Nat)(l:List NG)(v:NG)(j:l.length<=maxLen)(c:k<=l.length)(d:Strs w a l):
  Calls prog 98 #[.slice a k b,.string v] w λe w'=>Says e (∃i,i<k/\l.getD i ByteArray.empty=v)/\w'=w:=by
 have e:(l.take k).length=k:=F6;have:=AO w a b (l.take k) v (by rw[e];omega) (d.take k);rw[e] at this;exact this.mono λe w' ⟨h,f⟩=>⟨h.congr (GY c),f⟩
def Li(s:Xq):Prop:=s.asks.length<=5/\rV s.asks/\(s.on=0\/(0<=s.on/\s.on<s.asks.length))
def Br(l:List NG)(j:Nat):Prop:=je (l.getD j ByteArray.empty)/\∀m,m<j->l.getD m ByteArray.empty≠l.getD j ByteArray.empty
theorem yB(w:NI)(s:Xq)(q v:NH)(f x:Nat)(y:s.Fits)(G:Strs w q s.asks)(T:s.asks.length<=f):
  Calls prog 254 #[.agg #[.slice q s.asks.length f,.a s.on,.slice v s.cases.length x,.a s.els,.a s.fall,.bool s.fin,.bool s.bad,.string s.give]] w λe w'=>Says e (Li s)/\K_ w w':=by
 have M:=y.asks;unfold maxLen at M;have c:K_ w (w.alloc (.cells #[.slice q s.asks.length f,.a s.on,.slice v s.cases.length x,.a s.els,.a s.fall,.bool s.fin,.bool s.bad,.string s.give] 238)):=ah _ _;by_cases U:(s.asks.length:Int)<=5
 .go_enter func254,ntmps254
  go_wp2
  go_loopw [14] (λi wr=>∃k:Nat,k<=s.asks.length/\i= .a k/\K_ (w.alloc (.cells #[.slice q s.asks.length f,.a s.on,.slice v s.cases.length x,.a s.els,.a s.fall,.bool s.fin,.bool s.bad,.string s.give] 238)) wr/\∀j,j<k->Br s.asks j) (λi _=>s.asks.length-(intOf i).toNat)
  case atStart=>exact⟨0,Mg _,rfl,K_.refl _,λj z=>aO z⟩
  case round=>
   obtain⟨k,V,rfl,a,H⟩:=hrel;have A:=Kz H;clear H;have N:=a.size;simp only[MS] at N;by_cases r:k<s.asks.length
   .obtain⟨b,o,rfl,O,I⟩:=(G.kept c).kept a k r;have J:(s.asks.getD k ByteArray.empty).size<=maxLen:=y.eO _ (by simp[List.getD,r]);obtain⟨K,B⟩:=aj (s.asks.getD k ByteArray.empty);rw[<-B] at I J;have t:=Kz B;clear B;go_wp2_with fail
    refine (lX _ K J).mono ?_;rintro e W ⟨d,C⟩;have l:=a.trans C;have D:=(G.kept c).kept l;clear I O;rcases d.cases with⟨rfl,m⟩|⟨rfl,n⟩
    .have P:=Kz m;clear m d a C;obtain⟨E,F⟩:=l.rules;have X:k<=f:=E5;go_wp2_with fail
     refine (qf _ _ f k s.asks K y.asks E5 D).mono ?_;rintro e Y ⟨d,rfl⟩;rcases d.cases with⟨rfl,m⟩|⟨rfl,n⟩
     .have p:=Kz m;clear m d D E F;go_wp2
      go_ret
      exact⟨Says.no λh=>by obtain⟨i,Q,e⟩:=p.o;exact (h.2.1 k r).2 i Q (by rw[e,t.o]),c.trans l⟩
     .have p:=Kz n;clear n d D E F;go_wp2
      go_roundw
      case rel=>
       refine⟨k+1,E5,F3,l,λj z=>?_⟩;by_cases e:j=k
       .subst e;exact⟨by rw[<-t.o];exact P.o,λR S h=>p.o ⟨R,S,by rw[h,t.o]⟩⟩
       .exact bf A j E5
      case measure=>simp[intOf];omega
    .have p:=Kz n;clear n d a C;go_wp2
     go_ret
     exact⟨Says.no λh=>p.o (by rw[t.o];exact (h.2.1 k r).1),c.trans l⟩
   .obtain⟨E,F⟩:=a.rules;have L:Hid (rV s.asks):=λj z=>bf A j E5
    clear A;go_wp2
    .go_ret
     exact⟨(Says.dec _).congr ⟨λh=>⟨E5,L.out,E5⟩,λh=>by have:=h.2.2;omega⟩,c.trans a⟩
    .go_ret
     exact⟨(Says.dec _).congr ⟨λh=>⟨E5,L.out,E5⟩,λh=>by have:=h.2.2;omega⟩,c.trans a⟩
    all_goals
     go_ret
     exact⟨Says.no λh=>by have:=h.2.2;omega,c.trans a⟩
 .go_enter func254,ntmps254
  go_wp2
  go_ret
  exact⟨Says.no λh=>by have:=h.1;omega,c⟩
theorem eY :∀(x y z:List UInt8),Op.bytesLess x y=true->Op.bytesLess y z=true->Op.bytesLess x z=true
 | [],[],_,h,_=>by simp[Op.bytesLess] at h
 | [],_ :: _,[],_,h=>by simp[Op.bytesLess] at h
 | [],_ :: _,_ :: _,_,_=>by simp[Op.bytesLess]
 | _ :: _,[],_,h,_=>by simp[Op.bytesLess] at h
 | _ :: _,_ :: _,[],_,h=>by simp[Op.bytesLess] at h
 | a :: x,b :: y,c :: z,e,d=>by
  have f:=eY x y z;simp only[Op.bytesLess,Bool.or_eq_true,Bool.and_eq_true,NA,beq_iff_eq] at e d⊢;rcases e with e|⟨rfl,e⟩
  .rcases d with d|⟨rfl,d⟩
   .exact .inl (UInt8.lt_trans e d)
   .exact .inl e
  .rcases d with d|⟨rfl,d⟩
   .exact .inl d
   .exact .inr ⟨rfl,f e d⟩
theorem dO :∀x:List UInt8,Op.bytesLess x x=false
 | []=>rfl
 | a :: x=>by
  have b:=dO x;simp[Op.bytesLess,b]
theorem qC :∀x y:List UInt8,Op.bytesLess x y=false->x≠y->Op.bytesLess y x=true
 | [],[],_,h=>Nv rfl h
 | [],_ :: _,h,_=>by simp[Op.bytesLess] at h
 | _ :: _,[],_,_=>rfl
 | a :: x,b :: y,h,hne=>by
  have f:=qC x y;simp only[Op.bytesLess,Bool.or_eq_false_iff,decide_eq_false_iff_not,Bool.and_eq_false_iff,beq_eq_false_iff_ne] at h;simp only[Op.bytesLess,Bool.or_eq_true,Bool.and_eq_true,NA,beq_iff_eq];by_cases e:a=b
  .subst e
   right
   refine⟨rfl,f ?_ (λe=>hne (by rw[e]))⟩;rcases h.2 with c | c
   .exact Nv rfl c
   .exact c
  .left
   have d:=h.1;rw[UInt8.not_lt] at d;exact UInt8.lt_of_le_of_ne d (λi=>e i.symm)
def nameAt(l:List Qz)(i:Nat):List UInt8:=(l.getD i Qz.zero).name.toList
def fP(l:List Qz):Prop:=∀i j,i<j->j<l.length->Op.bytesLess (nameAt l i) (nameAt l j)=true
theorem Cy{l:List Qz}(h:∀i,i+1<l.length->Op.bytesLess (nameAt l i) (nameAt l (i+1))=true):fP l:=by
 intro i j b a
 induction j with
 | zero=>omega
 | succ j ih=>
  by_cases e:i=j
  .subst e;exact h i a
  .exact eY _ _ _ (ih E5 E5) (h j a)
structure Place (l:List Qz) (key:List UInt8) (p:Nat):Prop where
 le:p<=l.length
 before:∀j,j<p->Op.bytesLess (nameAt l j) key=true
 behind:∀j,p<=j->j<l.length->Op.bytesLess (nameAt l j) key=false
theorem Place.only{l:List Qz}{a:List UInt8}{p j:Nat}(c:fP l)(h:Place l a p)(d:j<l.length)(e:nameAt l j=a):j=p:=by
 by_cases f:j<p
 .have:=h.before j f;rw[e,dO] at this;cases this
 .by_cases i:p<j
  .have b:=c p j i d;rw[e] at b;have:=h.behind p (Me _) E5;rw[b] at this;cases this
  .omega
theorem FU{w a:NI}{x y z:NJ}{t:TypeId}(K:K_ (w.alloc (.cells #[x,y,z] t)) a):a.cell? ⟨w.heap.size,0,none⟩=some x/\a.cell? ⟨w.heap.size,1,none⟩=some y/\a.cell? ⟨w.heap.size,2,none⟩=some z:=by
 refine⟨?_, ?_, ?_⟩
 .rw[K.cell E9];simp
 .rw[K.cell E9];simp
 .rw[K.cell E9];simp
theorem K_.un{X:NI}(k:K_ X.drew w'):K_ X w':=K_.trans (aV _) k
theorem Bc{X:NI}{c:Array NJ}{t:TypeId}(k:K_ (X.alloc (.cells c t)) w'):aD w' X.heap.size t c.size:=(aD.made X c t).kept k
theorem Bj{X:NI}{c:Array NJ}{t:TypeId}(k:K_ (X.alloc (.cells c t)).drew w'):aD w' X.heap.size t c.size:=Bc k.un
structure bW where
 code:Int
 over:Bool
 at':Int
 text:NG
def bW.cells(g:bW):List NJ:=[.a g.code,.bool g.over,.a g.at',.string g.text]
theorem xk(w:NI)(c:Xz)(a:c.text.size<=maxLen):
  Calls prog 205 #[.agg #[.bool c.fail,.string c.text]] w λe w'=>Says e (200<c.text.size)/\K_ w w':=by
 unfold maxLen at a;go_enter func205,ntmps205
 go_wp2
 go_ret
 exact⟨(Says.dec _).congr ⟨λh=>E5,λh=>E5⟩,ah _ _⟩
theorem Eu(w:NI)(c:Xz):
  Calls prog 168 #[.agg #[.bool c.fail,.string c.text]] w λe w'=>Says e (c.fail=true)/\K_ w w':=by
 go_enter func168,ntmps168
 go_wp2
 go_ret
 exact⟨⟨c.fail,rfl,Iff.rfl⟩,ah _ _⟩
def zR(l:List Xz)(p:Xz->Prop)(r:Int):Prop:=
 (∃i,i<l.length/\r= (i:Int)/\p (l.getD i Xz.zero)/\∀j,j<i->¬p (l.getD j Xz.zero))\/(r= -1/\∀j,j<l.length->¬p (l.getD j Xz.zero))
def l_(l:List Xz)(p:Xz->Prop)(k:Nat):Prop:=∀j,j<k->¬p (l.getD j Xz.zero)
def ow(c:Xz):Prop:=200<c.text.size
def iy(c:Xz):Prop:=c.fail=true
theorem Gu(w:NI)(a:NH)(C:Nat)(l:List Xz)(D:l.length<=maxLen)(E:∀c∈l,c.text.size<=maxLen)(F:fw w a l):
  Calls prog 167 #[.slice a l.length C,.func (.func 205) #[] #[]] w λe w'=>(∃r,e= .returned (.a r)/\zR l ow r)/\K_ w w':=by
 unfold maxLen at D;go_enter func167,ntmps167
 go_wp2
 go_loopw [8] (λi wr=>∃k:Nat,k<=l.length/\i= .a k/\K_ w wr/\l_ l ow k) (λi _=>l.length-(intOf i).toNat)
 case atStart=>exact⟨0,Mg _,rfl,K_.refl _,λj h=>aO h⟩
 case round=>
  obtain⟨k,J,rfl,d,s⟩:=hrel;have m:=Kz s;clear s;by_cases n:k<l.length
  .obtain⟨b,o,rfl,K,f⟩:=F.kept d k n;have t:(l.getD k Xz.zero).text.size<=maxLen:=E _ (by simp[List.getD,n]);obtain⟨c,p⟩:=aj (l.getD k Xz.zero);rw[<-p] at f t;have v:=Kz p;clear p;have x:=f 0 _ rfl;have G:=f 1 _ rfl;simp only[M_] at x;clear f;go_wp2_with fail
   refine (xk _ c t).mono ?_;rintro e L ⟨q,y⟩;have z:=d.trans y;clear x G d y;rcases q.cases with⟨rfl,A⟩|⟨rfl,B⟩
   .have H:=Kz A;clear A q;go_wp2
    go_ret
    exact⟨⟨k,rfl,Or.inl ⟨k,n,rfl,by rw[<-v.o];exact H.o,m.o⟩⟩,z⟩
   .have I:=Kz B;clear B q;go_wp2
    go_roundw
    case rel=>
     refine⟨k+1,E5,F3,z,λj h=>?_⟩;by_cases e:j=k
     .subst e;rw[<-v.o];exact I.o
     .exact m.o j E5
    case measure=>simp[intOf];omega
  .go_wp2
   go_ret
   exact⟨⟨-1,rfl,Or.inr ⟨rfl,λj h=>m.o j E5⟩⟩,d⟩
theorem zD(w:NI)(a:NH)(B:Nat)(l:List Xz)(C:l.length<=maxLen)(D:∀c∈l,c.text.size<=maxLen)(E:fw w a l):
  Calls prog 167 #[.slice a l.length B,.func (.func 168) #[] #[]] w λe w'=>(∃r,e= .returned (.a r)/\zR l iy r)/\K_ w w':=by
 unfold maxLen at C;go_enter func167,ntmps167
 go_wp2
 go_loopw [8] (λi wr=>∃k:Nat,k<=l.length/\i= .a k/\K_ w wr/\l_ l iy k) (λi _=>l.length-(intOf i).toNat)
 case atStart=>exact⟨0,Mg _,rfl,K_.refl _,λj h=>aO h⟩
 case round=>
  obtain⟨k,J,rfl,d,s⟩:=hrel;have m:=Kz s;clear s;by_cases n:k<l.length
  .obtain⟨b,o,rfl,K,f⟩:=E.kept d k n;have F:(l.getD k Xz.zero).text.size<=maxLen:=D _ (by simp[List.getD,n]);obtain⟨c,p⟩:=aj (l.getD k Xz.zero);rw[<-p] at f F;have t:=Kz p;clear p;have v:=f 0 _ rfl;have G:=f 1 _ rfl;simp only[M_] at v;clear f;go_wp2_with fail
   refine (Eu _ c).mono ?_;rintro e L ⟨q,x⟩;have y:=d.trans x;clear v G d x;rcases q.cases with⟨rfl,z⟩|⟨rfl,A⟩
   .have H:=Kz z;clear z q;go_wp2
    go_ret
    exact⟨⟨k,rfl,Or.inl ⟨k,n,rfl,by rw[<-t.o];exact H.o,m.o⟩⟩,y⟩
   .have I:=Kz A;clear A q;go_wp2
    go_roundw
    case rel=>
     refine⟨k+1,E5,F3,y,λj h=>?_⟩;by_cases e:j=k
     .subst e;rw[<-t.o];exact I.o
     .exact m.o j E5
    case measure=>simp[intOf];omega
  .go_wp2
   go_ret
   exact⟨⟨-1,rfl,Or.inr ⟨rfl,λj h=>m.o j E5⟩⟩,d⟩
theorem Ab(w:NI)(a:NH)(f:Nat)(l:List Xz)(n:l.length<=maxLen)(p:∀c∈l,c.text.size<=maxLen)(q:fw w a l):
  Calls prog 204 #[.slice a l.length f,.func (.func 205) #[] #[]] w λe w'=>Says e (∃i,i<l.length/\ow (l.getD i Xz.zero))/\K_ w w':=by
 go_enter func204,ntmps204
 go_wp2_with fail
 refine (Gu _ a f l n p q).mono ?_;rintro e v ⟨⟨r,rfl,h⟩,j⟩;have k:=Kz h;clear h;by_cases m:0<=r
 .have s:decide (0<=r)=true:=by simpa using m
  go_wp2
  go_ret
  exact⟨Says.yes (by rcases k.o with⟨i,b,_,d,_⟩ | ⟨rfl,_⟩;exact⟨i,b,d⟩;omega),j⟩
 .have s:decide (0<=r)=false:=by simpa using m
  go_wp2
  go_ret
  exact⟨Says.no (by rcases k.o with⟨i,b,rfl,d,_⟩ | ⟨rfl,t⟩;omega;exact λ⟨i,b,d⟩=>t i b d),j⟩
def sJ(s:Xq)(t:NG)(i:Nat):Prop:=(s.cases.getD i bO.zero).text=t
def CaseTo(s:Xq)(t:NG)(k:Nat):Prop:=∀j,j<k->¬sJ s t j
def DL(s:Xq)(i:Nat):Int:=(s.cases.getD i bO.zero).goto
def lW(ans:List Xz)(i:Int):NG:=(ans.getD i.toNat Xz.zero).text
def wC(s:Xq)(ans:List Xz)(r:Int):Prop:=
 (ans.length=0/\r=s.els)\/
 (ans.length≠0/\((∃i,i<s.cases.length/\sJ s (lW ans s.on) i/\CaseTo s (lW ans s.on) i/\r=DL s i)\/(CaseTo s (lW ans s.on) s.cases.length/\r=s.els)))
theorem wC.unique{s:Xq}{ans:List Xz}{r c:Int}(h:wC s ans r)(f:wC s ans c):r=c:=by
 rcases h with⟨k,rfl⟩ | ⟨k,⟨i,l,d,a,rfl⟩ | ⟨a,rfl⟩⟩ <;> rcases f with⟨m,rfl⟩ | ⟨m,⟨j,n,e,b,rfl⟩ | ⟨b,rfl⟩⟩
 all_goals first | rfl | (exfalso;omega) | skip
 .rcases Ns i j with h|rfl|h
  .exact Nv d (b i h)
  .rfl
  .exact Nv e (a j h)
 .exact Nv d (b i l)
 .exact Nv e (a j n)
theorem Dm(w:NI)(s:Xq)(n d a:NH)(p q O:Nat)(ans:List Xz)(P:s.cases.length<=maxLen)(Q:kP w d s.cases)(_hl:ans.length<=maxLen)(R:fw w a ans)
  (F:ans.length≠0->0<=s.on/\s.on<ans.length):
  Calls prog 206 #[.agg #[.slice n s.asks.length p,.a s.on,.slice d s.cases.length q,.a s.els,.a s.fall,.bool s.fin,.bool s.bad,.string s.give],.slice a ans.length O] w λe w'=>(∃r,e= .returned (.a r)/\wC s ans r)/\K_ w w':=by
 unfold maxLen at _hl P;have S:K_ w (w.alloc (.cells #[.slice n s.asks.length p,.a s.on,.slice d s.cases.length q,.a s.els,.a s.fall,.bool s.fin,.bool s.bad,.string s.give] 238)):=ah _ _;cases f:((ans.length:Int) == 0)
 .have v:ans.length≠0:=by simp at f;simpa using f
  obtain⟨G,T⟩:=F v;clear F;have H:=Kz v;clear v;obtain⟨t,I⟩:=aj (lW ans s.on);have h:=Kz I;clear I;obtain⟨x,y⟩:=Int.eq_ofNat_of_zero_le G;have U:=Kz y;go_enter func206,ntmps206
  rw[y] at G T⊢;clear y;go_wp2
  go_loopw [17] (λz wr=>∃k:Nat,k<=s.cases.length/\z= .a k/\K_ (w.alloc (.cells #[.slice n s.asks.length p,.a x,.slice d s.cases.length q,.a s.els,.a s.fall,.bool s.fin,.bool s.bad,.string s.give] 238)) wr/\CaseTo s t k) (λz _=>s.cases.length-(intOf z).toNat)
  case atStart=>exact⟨0,Mg _,rfl,K_.refl _,λj A=>aO A⟩
  case round=>
   obtain⟨k,a0,rfl,i,J⟩:=hrel;have B:=Kz J;clear J;have V:=i.size;simp only[MS] at V;have l:K_ w wr:=K_.trans (ah _ _) i;obtain⟨a1,a2⟩:=i.rules;by_cases K:k<s.cases.length
   .obtain⟨b,o,rfl,hb,m⟩:=Q.kept l k K;obtain⟨W,o',rfl,a3,L⟩:=R.kept l x E5;obtain⟨c,C⟩:=aj (s.cases.getD k bO.zero);rw[<-C] at m;have D:=Kz C;clear C;have X:=m 0 _ rfl;have c1:=m 1 _ rfl;have Y:=L 1 _ rfl;simp only[M_] at X;have M:(ans.getD x Xz.zero).text=t:=by have E:=h.o;have Z:=U.o;unfold lW at E;rw[Z] at E;exact E.symm
    rw[M] at Y;clear m L M;have z0:w.heap.size<wr.heap.size:=E5;have z1:w.heap.size<wr.heap.size+1:=E5;have z2:W<wr.heap.size+1:=E5;cases N:(c.text.toList == t.toList)
    .go_wp2
     go_region
     all_goals
      go_wp2
      go_roundw
      case rel=>
       refine⟨k+1,E5,F3,by repeat (first | apply K_.drew | apply K_.alloc | exact i),λj A=>?_⟩;by_cases e:j=k
       .subst e;unfold sJ;rw[<-D.o];exact rX N
       .exact B.o j E5
      case measure=>simp[intOf];omega
    .go_wp2
     go_region
     all_goals
      go_wp2
      go_ret
      exact⟨⟨c.goto,rfl,Or.inr ⟨H.o,Or.inl ⟨k,K,by unfold sJ;rw[<-D.o,<-h.o];exact oZ.1 N,by rw[<-h.o];exact B.o,by unfold DL;rw[<-D.o]⟩⟩⟩,by repeat (first | apply K_.drew | apply K_.alloc | exact l)⟩
   .go_wp2
    go_ret
    exact⟨⟨s.els,rfl,Or.inr ⟨H.o,Or.inr ⟨by rw[<-h.o];exact λj A=>B.o j E5,rfl⟩⟩⟩,l⟩
 .go_enter func206,ntmps206
  go_wp2
  go_ret
  exact⟨⟨s.els,rfl,Or.inl ⟨by simp at f;simpa using f,rfl⟩⟩,S⟩
def bW.none :bW:=⟨1,false,0,⟨#[]⟩⟩
def jH(s:Xq)(i:Nat):NG:=(⟨#[98,101,108,111,119,32]⟩:NG)++s.asks.getD i ByteArray.empty
def xg(s:Xq)(ans:List Xz):Prop:=ans.length=s.asks.length/\¬∃i,i<ans.length/\ow (ans.getD i Xz.zero)
def Followed(s:Xq)(ans:List Xz)(g:bW):Prop:=
 (¬xg s ans/\g=bW.none)\/
 (xg s ans/\((∃i,i<ans.length/\iy (ans.getD i Xz.zero)/\l_ ans iy i/\((s.fall= -1/\g= ⟨0,true,0,jH s i⟩)\/(s.fall≠ -1/\g= ⟨0,false,s.fall,⟨#[]⟩⟩)))\/
  (l_ ans iy ans.length/\∃r,wC s ans r/\g= ⟨0,false,r,⟨#[]⟩⟩)))
theorem Followed.unique{s:Xq}{ans:List Xz}{g k:bW}(h:Followed s ans g)(n:Followed s ans k):g=k:=by
 rcases h with⟨a,rfl⟩ | ⟨a,⟨i,p,l,b,⟨c,rfl⟩ | ⟨c,rfl⟩⟩ | ⟨b,v,q,rfl⟩⟩ <;> rcases n with⟨d,rfl⟩ | ⟨d,⟨j,r,m,e,⟨f,rfl⟩ | ⟨f,rfl⟩⟩ | ⟨e,w,t,rfl⟩⟩
 all_goals first | rfl | exact Nv d a | exact Nv a d | exact Nv f c | exact Nv c f | exact Nv l (e i p) | exact Nv m (b j r) | skip
 .rcases Ns i j with h|rfl|h
  .exact Nv l (e i h)
  .rfl
  .exact Nv m (b j h)
 .rw[q.unique t]
theorem Tryz.dQ :(prog.info? 186).map (·.size)=some 4:=F4
theorem Co(w:NI)(s:Xq)(f h a:NH)(k l t:Nat)(ans:List Xz)(M:s.Fits)(Z:Strs w f s.asks)(hC:kP w h s.cases)(v:ans.length<=maxLen)(N:∀c∈ans,c.text.size<=maxLen)(F:fw w a ans)
  (a1:s.asks.length≠0->0<=s.on/\s.on<s.asks.length) (a2:∀i,i<s.asks.length->(s.asks.getD i ByteArray.empty).size<=20):
  Calls prog 177 #[.agg #[.slice f s.asks.length k,.a s.on,.slice h s.cases.length l,.a s.els,.a s.fall,.bool s.fin,.bool s.bad,.string s.give],.slice a ans.length t] w λe w'=>(∃g,e= .returned (.agg g.cells.toArray)/\Followed s ans g)/\K_ w w':=by
 have a3:=v;have a4:=M.asks;unfold maxLen at a3 a4;have x:K_ w ((w.alloc (.cells #[.slice f s.asks.length k,.a s.on,.slice h s.cases.length l,.a s.els,.a s.fall,.bool s.fin,.bool s.bad,.string s.give] 238)).alloc (.cells #[.a 0,.bool false,.a 0,.string ⟨#[]⟩] 186)):=(ah _ _).alloc _;cases G:((ans.length:Int) != (s.asks.length:Int))
 .have O:ans.length=s.asks.length:=by simp at G;omega
  have y:=Kz O;clear O;go_enter func177,ntmps177
  go_wp2_with fail
  refine (Ab _ a t ans v N (F.kept x)).mono ?_;rintro e z ⟨H,j⟩;have A:=x.trans j;have P:Row z (w.heap.size+1) 4:=Row.kept (by have:=Row.made (w.alloc (.cells #[.slice f s.asks.length k,.a s.on,.slice h s.cases.length l,.a s.els,.a s.fall,.bool s.fin,.bool s.bad,.string s.give] 238)) #[.a 0,.bool false,.a 0,.string ⟨#[]⟩] 186;simpa using this) j;have I:=Kz P;clear P;obtain⟨b7,b8⟩:=j.rules;have a5:=j.size;simp only[MS] at a5;rcases H.cases with⟨rfl,Q⟩|⟨rfl,R⟩
  .have HY:=Kz Q;clear Q H x j;go_wp2
   have b:=Mi z (w.heap.size+1) 0 bW.none.cells (I.o.there (o:=0) (m:=4) (Me _));exact Zx bW.none.cells _ results177 rfl b underlying186 rfl Tryz.dQ rfl ⟨⟨_,rfl,Or.inl ⟨λB=>B.2 HY.o,rfl⟩⟩,K_.setCells (g:=w.heap.size+1) E5 bW.none.cells 0 A⟩
  .have HN:=Kz R;clear R H x j;have z0:w.heap.size<z.heap.size:=E5;have z1:w.heap.size+1<z.heap.size:=E5;go_wp2_with fail
   refine (zD _ a t ans v N (F.kept A)).mono ?_;rintro e C ⟨⟨c1,rfl,hr⟩,n⟩;have d:=A.trans n;have S:=I.o.kept n;have D:=Kz S;obtain⟨c2,c3⟩:=n.rules;have c4:=n.size;have y0:w.heap.size<C.heap.size:=E5;have y1:w.heap.size+1<C.heap.size:=E5;clear S I n A;have J:Hid (xg s ans):=⟨y.o,HN.o⟩;rcases hr with⟨i,T,rfl,U,p⟩|⟨rfl,p⟩
   .have V:=Kz U;have E:=Kz p;clear U p;cases W:(s.fall == -1)
    .go_wp2
     have b:=Mi C (w.heap.size+1) 0 [.a 0,.bool false,.a s.fall,.string ⟨#[]⟩] (D.o.there (o:=0) (m:=4) (Me _));exact Zx [.a 0,.bool false,.a s.fall,.string ⟨#[]⟩] _ results177 rfl b underlying186 rfl Tryz.dQ rfl ⟨⟨⟨0,false,s.fall,⟨#[]⟩⟩,rfl,Or.inr ⟨J.o,Or.inl ⟨i,T,V.o,E.o,Or.inr ⟨by simpa using W,rfl⟩⟩⟩⟩,K_.setCells (g:=w.heap.size+1) E5 [.a 0,.bool false,.a s.fall,.string ⟨#[]⟩] 0 d⟩
    .obtain⟨ba,oa,rfl,c9,a9⟩:=Z.kept d i (by have:=y.o;omega);have b0:i<s.asks.length:=by have:=y.o;omega
     obtain⟨K,L⟩:=aj (s.asks.getD i ByteArray.empty);have b1:=a2 i b0;rw[<-L] at a9 b1;have HV:=Kz L;clear L;go_wp2
     have b:=Mi C (w.heap.size+1) 0 [.a 0,.bool true,.a 0,.string ((⟨#[98,101,108,111,119,32]⟩:NG)++K)] (D.o.there (o:=0) (m:=4) (Me _));exact Zx [.a 0,.bool true,.a 0,.string ((⟨#[98,101,108,111,119,32]⟩:NG)++K)] _ results177 rfl b underlying186 rfl Tryz.dQ rfl ⟨⟨⟨0,true,0,_⟩,rfl,Or.inr ⟨J.o,Or.inl ⟨i,T,V.o,E.o,Or.inl ⟨by simpa using W,by unfold jH;rw[<-HV.o]⟩⟩⟩⟩,K_.setCells (g:=w.heap.size+1) E5 [.a 0,.bool true,.a 0,.string ((⟨#[98,101,108,111,119,32]⟩:NG)++K)] 0 d⟩
   .have E:=Kz p;clear p;go_wp2_with fail
    refine (Dm _ s f h a k l t ans M.cases (hC.kept d) v (F.kept d) (λB=>by have h1:=y.o;have h2:=a1 E5;omega)).mono ?_;rintro e w3 ⟨⟨q,rfl,X⟩,r⟩;have K3:=d.trans r;have Y:=D.o.kept r;have⟨b5,HQ⟩:=aH Y X;obtain⟨d2,d3⟩:=r.rules;have d4:=r.size;clear Y D r d X;go_wp2
    have b:=Mi w3 (w.heap.size+1) 0 [.a 0,.bool false,.a q,.string ⟨#[]⟩] (b5.o.there (o:=0) (m:=4) (Me _));exact Zx [.a 0,.bool false,.a q,.string ⟨#[]⟩] _ results177 rfl b underlying186 rfl Tryz.dQ rfl ⟨⟨⟨0,false,q,⟨#[]⟩⟩,rfl,Or.inr ⟨J.o,Or.inr ⟨E.o,q,HQ.o,rfl⟩⟩⟩,K_.setCells (g:=w.heap.size+1) E5 [.a 0,.bool false,.a q,.string ⟨#[]⟩] 0 K3⟩
 .go_enter func177,ntmps177
  go_wp2
  have b:=X_ (w.alloc (.cells #[.slice f s.asks.length k,.a s.on,.slice h s.cases.length l,.a s.els,.a s.fall,.bool s.fin,.bool s.bad,.string s.give] 238)) #[.a 1,.bool false,.a 0,.string ⟨#[]⟩] 186;rw[MS] at b;exact Zx bW.none.cells _ results177 rfl b underlying186 rfl Tryz.dQ rfl ⟨⟨_,rfl,Or.inl ⟨λB=>by simp at G;exact G (by have:=B.1;omega),rfl⟩⟩,(ah _ _).alloc _⟩
theorem LD(vs:Array NJ)(W:NI):(Instr.typeAssert (.iface 238 (.agg vs)) 211 238 true).run prog W= .ok (.tuple #[.agg vs,.bool true]) W:=F4
theorem Dn(w:NI)(s:Xq)(B:s.fin=false)(d f a:NH)(j k l:Nat)(ans:List Xz)(C:s.Fits)(D:Strs w d s.asks)(E:kP w f s.cases)(F:ans.length<=maxLen)(G:∀c∈ans,c.text.size<=maxLen)(H:fw w a ans)
  (q:s.asks.length≠0->0<=s.on/\s.on<s.asks.length) (r:∀i,i<s.asks.length->(s.asks.getD i ByteArray.empty).size<=20):
  Calls prog 148 #[.iface 238 (.agg #[.slice d s.asks.length j,.a s.on,.slice f s.cases.length k,.a s.els,.a s.fall,.bool false,.bool s.bad,.string s.give]),.slice a ans.length l] w λe w'=>(∃g,e= .returned (.agg g.cells.toArray)/\Followed s ans g)/\K_ w w':=by
 have v:∀W,K_ w W->Calls prog 177 #[.agg #[.slice d s.asks.length j,.a s.on,.slice f s.cases.length k,.a s.els,.a s.fall,.bool false,.bool s.bad,.string s.give],.slice a ans.length l] W λe w'=>(∃g,e= .returned (.agg g.cells.toArray)/\Followed s ans g)/\K_ W w':=λW n=>by
  have h:=Co W s d f a j k l ans C (D.kept n) (E.kept n) F G (H.kept n) q r;rw[B] at h;exact h
 have I:=Kz v;clear v q r;have O:=LD;go_enter func148,ntmps148
 go_wp2_with fail
 refine (bf I _ H6).mono ?_;rintro e p ⟨⟨g,rfl,y⟩,b⟩;have z:Row p w.heap.size 4:=Row.kept (Row.alloc (by have:=Row.made w #[.a 0,.bool false,.a 0,.string ⟨#[]⟩] 186;simpa using this) _) b;have J:K_ w p:=K_.trans H6 b;obtain⟨c,o,t,x⟩:=g;have⟨K,L⟩:=aH y z;clear y z;obtain⟨P,Q⟩:=b.rules;have M:=b.size;simp only[MS] at M;clear b;have A:(bW.mk c o t x).cells.toArray= #[.a c,.bool o,.a t,.string x]:=rfl;rw[A];clear A;go_wp2
 have N:=Mi p w.heap.size 0 (bW.mk c o t x).cells (L.o.there (o:=0) (m:=4) (Me _));exact Zx (bW.mk c o t x).cells _ results148 rfl N underlying186 rfl Tryz.dQ rfl ⟨⟨_,rfl,K.o⟩,K_.setCells (g:=w.heap.size) E5 (bW.mk c o t x).cells 0 J⟩
