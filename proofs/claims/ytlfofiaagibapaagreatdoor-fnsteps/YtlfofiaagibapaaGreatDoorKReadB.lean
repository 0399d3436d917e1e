import Derived.Test.YtlfofiaagibapaaGreatDoorKWSpec3
import Derived.Test.YtlfofiaagibapaaGreatDoorKWSpec4
import Derived.Test.YtlfofiaagibapaaGreatDoorKCResO
import Derived.ProofKit
set_option maxRecDepth 100000
set_option maxHeartbeats 25600000
namespace Go.Proofs.YtlfofiaagibapaaGreatDoor
open Go.RowKit Go.Proofs.Tryz
theorem xw(w:NN)(n lo hi:Int)(a:lo<=n)(h2:n<=hi):Calls prog 111 #[.a n,.a lo,.a hi] w λe w'=>e=.returned (.bool true)/\w'=w:=by
 go_enter func111,ntmps111
 go_wp2
 go_ret
 exact⟨rfl,rfl⟩
theorem AJ(w:NN)(s:Xq)(b c:NM)(f i:Nat)(n:Int)(d:s.Fits)(l:0<=n/\n<=20)(m:Strs w b s.asks)(p:lm w c s.cases):Calls prog 119 #[.agg #[.slice b s.asks.length f,.a s.on,.slice c s.cases.length i,.a s.els,.a s.fall,.bool s.fin,.bool s.bad,.string s.give],.a n] w
   λe w'=>Says e (ll s n)/\K_ w w':=by
 cases a:s.fin
 .rw[<-a];by_cases j:vJ s n
  .refine (u_ w s b c f i n d l m p a j).mono ?_;rintro e w' ⟨h,k⟩;exact⟨h.congr ⟨λh=>⟨λe=>(by rw[a] at e;cases e),λ_=>⟨j,h⟩⟩,λh=>(h.2 a).2⟩,k⟩
  .refine (xW w s b c f i n d l m p a j).mono ?_;rintro e w' ⟨rfl,k⟩;exact⟨Says.no λh=>j (h.2 a).1,k⟩
 .refine (AL w s.asks.length s.on s.cases.length s.els s.fall s.bad s.give b c f i n d.asks d.cases d.give).mono ?_;rintro e w' ⟨h,k⟩;exact⟨h.congr ⟨λh=>⟨λ_=>h,λe=>(by rw[a] at e;cases e)⟩,λh=>h.1 a⟩,k⟩
theorem fM(w:NN)(cost:Int)(a:NM)(i:Nat)(l:List Xq)(G:l.length<=maxLen)(H:∀s∈l,s.Fits)(I:Steps w a l):Calls prog 65 #[.agg #[.a cost,.slice a l.length i]] w λe w'=>Says e (gQ ⟨cost,l⟩)/\K_ w w':=by
 unfold maxLen at G;have d:K_ w (w.alloc (.cells #[.a cost,.slice a l.length i] 31)):=ah _ _;by_cases J:1<=cost
 .by_cases K:cost<=20
  .by_cases a3:(1:Int)<=l.length
   .by_cases a4:(l.length:Int)<=20
    .go_enter func65,ntmps65
     go_wp2_with (go_at_call 111;refine (xw _ _ _ _ E5 E5).mono ?_;rintro e w' ⟨rfl,rfl⟩)
     go_loopw [4] (λm wr=>∃k:Nat,k<=l.length/\m=.a k/\K_ (w.alloc (.cells #[.a cost,.slice a l.length i] 31)) wr/\∀j,j<k->ll (l.getD j Xq.zero) l.length) (λm _=>l.length-(intOf m).toNat)
     case atStart=>exact⟨0,Ml _,rfl,K_.refl _,λj n=>aO n⟩
     case round=>
      obtain⟨k,hk,rfl,f,x⟩:=hrel;have y:=Kz x;clear x;let⟨L,M⟩:=f.rules;have N:=f.size;simp only[MZ] at N;by_cases p:k<l.length
      .obtain⟨b,o,cs,rfl,hb,c,O,P,Q,R,rfl,q,r,a1⟩:=(I.kept d).kept f k p;have z:=H (l.getD k Xq.zero) (by simp[List.getD,p]);let⟨s,t⟩:=aj (l.getD k Xq.zero);rw[<-t] at c z q r;have A:=Kz t;clear t;have B:=c 0 _ rfl;have S:=c 1 _ rfl;have T:=c 2 _ rfl;have U:=c 3 _ rfl;have V:=c 4 _ rfl;have W:=c 5 _ rfl;have X:=c 6 _ rfl;have Y:=c 7 _ rfl;simp only[Ng] at B;clear c;go_wp2_with fail
       refine (AJ _ s O Q P R _ z ⟨E5,E5⟩ q r).mono ?_;rintro e w1 ⟨v,C⟩;have D:=f.trans C;clear B S T U V W X Y q r f C L M;rcases v.cases with⟨rfl,E⟩|⟨rfl,F⟩
       .have Z:=Kz E;clear E v;go_wp2
        go_roundw
        case rel=>
         refine⟨k+1,E5,F3,D,λj n=>?_⟩;by_cases e:j=k
         .subst e;rw[<-A.o];exact Z.o
         .exact bg y j E5
        case measure=>simp[intOf];omega
       .have a0:=Kz F;clear F v;go_wp2
        go_ret
        exact⟨Says.no λh=>a0.o (by rw[A.o];exact h.2.2 k p),d.trans D⟩
      .go_wp2
       go_ret
       exact⟨Says.yes ⟨⟨J,K⟩,⟨by show 1<=l.length;omega,by show l.length<=20;omega⟩,λj (n:j<l.length)=>bg y j E5⟩,d.trans f⟩
    .go_enter func65,ntmps65
     go_wp2
     go_ret
     exact⟨Says.no λh=>by have:=h.2.1.2;simp at this;omega,d⟩
   .go_enter func65,ntmps65
    go_wp2
    go_ret
    exact⟨Says.no λh=>by have:=h.2.1.1;simp at this;omega,d⟩
  .go_enter func65,ntmps65
   go_wp2
   go_ret
   exact⟨Says.no λh=>by have:=h.1.2;simp at this;omega,d⟩
 .go_enter func65,ntmps65
  go_wp2
  go_ret
  exact⟨Says.no λh=>by have:=h.1.1;simp at this;omega,d⟩
def eP(l:List NL):Prop:=1<=l.length/\l.length<=10/\sU l
theorem JZ(w:NN)(n lo hi:Int)(h:n<lo\/hi<n):Calls prog 111 #[.a n,.a lo,.a hi] w λe w'=>e=.returned (.bool false)/\w'=w:=by
 by_cases b:lo<=n
 .have c:¬n<=hi:=E5;go_enter func111,ntmps111
  go_wp2
  go_ret
  exact⟨rfl,rfl⟩
 .go_enter func111,ntmps111
  go_wp2
  go_ret
  exact⟨rfl,rfl⟩
theorem mE(w:NN)(a:NM)(d:Nat)(l:List NL)(k:l.length<=maxLen)(m:∀s∈l,s.size<=maxLen)(n:Strs w a l):Calls prog 54 #[.slice a l.length d] w λe w'=>Says e (eP l)/\K_ w w':=by
 by_cases h:1<=l.length/\l.length<=10
 .go_enter func54,ntmps54
  go_wp2_with (go_at_call 111;refine (xw _ _ _ _ E5 E5).mono ?_;rintro e w' ⟨rfl,rfl⟩)
  refine (lV _ a d l k m n).mono ?_;rintro e p ⟨b,f⟩;rcases b.cases with⟨rfl,i⟩|⟨rfl,j⟩
  .have c:=Kz i;clear i b;go_wp2
   go_ret
   exact⟨Says.yes ⟨h.1,h.2,c.o⟩,f⟩
  .have c:=Kz j;clear j b;go_wp2
   go_ret
   exact⟨Says.no λg=>c.o g.2.2,f⟩
 .go_enter func54,ntmps54
  go_wp2_with (go_at_call 111;refine (JZ _ _ _ _ E5).mono ?_;rintro e w' ⟨rfl,rfl⟩)
  go_ret
  exact⟨Says.no λg=>h ⟨g.1,g.2.1⟩,K_.refl _⟩
theorem wu(w:NN)(a:NM)(p:Nat)(l:List NL)(A:l.length<=maxLen)(S:l.length<=p)(H:∀s∈l,s.size<=maxLen)(B:Strs w a l):Calls prog 40 #[.slice a l.length p] w λe w'=>Says e (eP l)/\K_ w w':=by
 have I:=A;unfold maxLen at I;by_cases J:(l.length:Int)<1
 .go_enter func40,ntmps40
  go_wp2
  go_ret
  exact⟨Says.no λg=>by have:=g.1;omega,K_.refl _⟩
 .by_cases K:(10:Int)<l.length
  .go_enter func40,ntmps40
   go_wp2
   go_ret
   exact⟨Says.no λg=>by have:=g.2.1;omega,K_.refl _⟩
  .have L:decide ((l.length:Int)<1)=false:=by simpa using J
   have M:decide ((10:Int)<l.length)=false:=by simpa using K
   go_enter func40,ntmps40
   go_wp2
   clear L M;go_loopw [15] (λi wr=>∃k:Nat,k<=l.length/\i=.a k/\K_ w wr/\∀j,j<k->BF l j) (λi _=>l.length-(intOf i).toNat)
   case atStart=>exact⟨0,Ml _,rfl,K_.refl _,λj v=>aO v⟩
   case round=>
    obtain⟨k,T,rfl,d,C⟩:=hrel;have D:=Kz C;clear C;by_cases q:k<l.length
    .obtain⟨b,o,rfl,N,E⟩:=B.kept d k q;have F:(l.getD k ByteArray.empty).size<=maxLen:=H _ (by simp[List.getD,q]);let⟨G,x⟩:=aj (l.getD k ByteArray.empty);rw[<-x] at E F;have r:=Kz x;clear x;go_wp2_with fail
     refine (mI _ G F).mono ?_;rintro e U ⟨c,y⟩;have t:=d.trans y;have z:=B.kept t;clear E N;rcases c.cases with⟨rfl,f⟩|⟨rfl,h⟩
     .have O:=Kz f;clear f c d y;have V:k<=p:=E5;go_wp2_with fail
      refine (qM _ _ p k l G A E5 z).mono ?_;rintro e W ⟨c,rfl⟩;rcases c.cases with⟨rfl,f⟩|⟨rfl,h⟩
      .have m:=Kz f;clear f c z;go_wp2
       go_ret
       exact⟨Says.no λn=>by let⟨i,P,e⟩:=m.o;exact (n.2.2 k q).2 i P (by rw[e,r.o]),t⟩
      .have m:=Kz h;clear h c z;go_wp2
       go_roundw
       case rel=>
        refine⟨k+1,E5,F3,t,λj v=>?_⟩;by_cases e:j=k
        .subst e;exact⟨by rw[<-r.o];exact O.o,λQ R n=>m.o ⟨Q,R,by rw[n,r.o]⟩⟩
        .exact bg D j E5
       case measure=>simp[intOf];omega
     .have m:=Kz h;clear h c d y;go_wp2
      go_ret
      exact⟨Says.no λn=>m.o (by rw[r.o];exact (n.2.2 k q).1),t⟩
    .go_wp2
     go_ret
     exact⟨Says.yes ⟨E5,E5,λj v=>bg D j E5⟩,d⟩
open Go.RowKit Go.Deep Go.ChangeShapes
section
variable {H:Type}{enc:TypeId × NP -> H}{w:NN}{base:Nat}{spare:Nat -> Bool}{held:Bool}
theorem Tryz.cellsByte :prog.cellsOf 5=1:=F4
theorem yZ{fuel:Nat}{cs:List NP}{x:DataW H×List MemPlace}(j:DataW.trod enc prog w base spare held fuel 22 cs=some x):∃a bs c,cs=[.slice a (bs:List UInt8).length c]/\BytesAt w a bs/\bs.length<=maxLen/\bs.length<=c:=by
 rcases open_ints underlying22 underlying5 Tryz.cellsByte j with⟨rfl,_⟩|⟨a,len,c,b,rfl,_,k,y,l,_,h,m⟩
 .exact⟨none,[],0,rfl,λi d=>aO d,Ml _,Ml _⟩
 .have z:len<=b.length:=by rw[l];split<;>omega
  have e:((b.take len).map λn=>UInt8.ofNat n.toNat).length=len:=F6;refine⟨some a,(b.take len).map λn=>UInt8.ofNat n.toNat,c,by rw[e],λi d=>?_,by rw[e];omega,by rw[e];exact k⟩;rw[e] at d;let⟨p,q,r⟩:=a;have s:r=none:=by simpa[Addr.add] using World.cell?_spot (h 0 E5)
  subst s;have f:=h i E5;rw[Nf] at f;refine⟨p,q,rfl,World.block_lt_of_cell? _ _ f,?_⟩;rw[f];have t:=m (b.getD i 0) (by simp[List.getD,(E5:i<b.length)]);simp[Lit.wf,IntKind.min,IntKind.max,IntKind.signed,IntKind.bits] at t;have v:(((b.take len).map λn=>UInt8.ofNat n.toNat).getD i 0)=UInt8.ofNat (b.getD i 0).toNat:=by simp[List.getD,d,(E5:i<b.length)]
  rw[v];simp;omega
end
