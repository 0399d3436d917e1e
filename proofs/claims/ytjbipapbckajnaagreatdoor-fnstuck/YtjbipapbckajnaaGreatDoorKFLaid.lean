import Derived.Test.YtjbipapbckajnaaGreatDoorKFFmt
import Derived.Test.YtjbipapbckajnaaGreatDoorRows
import Derived.ProofKit
import Derived.LaidMore
import Derived.OpenShut
import Derived.Stop.Joined
set_option maxRecDepth 100000
set_option maxHeartbeats 25600000
namespace Go.Proofs.YtjbipapbckajnaaGreatDoor
open Go.RowKit Go.Proofs.Tryz
theorem vN(w:Pv)(s:Xj)(B E:Pt)(F J:Nat)(n:Int)(l:s.Fits)(U:0<=n/\n<=20)
  (K:Strs w B s.asks) (L:lI w E s.cases) (V:s.fin=false) (W:wC s n):
  Calls prog 120 #[.agg #[.slice B s.asks.length F,.a s.on,.slice E s.cases.length J,.a s.els,.a s.fall,.bool s.fin,.bool s.bad,.string s.give],.a n] w
   λe w'=>Says e (wD s n)/\K_ w w':=by
 rw[V];obtain⟨a4,a5⟩:=U;have X:=l.asks;have Y:=l.cases;have Z:=l.give;unfold maxLen at X Y Z;have M:=um s.give;have N:=Kz M;clear M;obtain⟨a0,O,a6,P,a7,⟨a8,a9⟩,⟨b0,b1⟩,Q⟩:=W;have b2:s.give.toList=[]:=N.o.2 O;have HN:=Kz P;rw[a0];have G:K_ w (w.alloc (.cells #[.slice B s.asks.length F,.a s.on,.slice E s.cases.length J,.a s.els,.a s.fall,.bool false,.bool false,.string s.give] 176)):=ah _ _;clear O P N;have b3:s.els<=n-1:=A7;have b4:s.fall<=n-1:=A7;have R:=Kz Q;clear Q;go_enter func120,ntmps120
 go_wp2_with fail
 refine (lZ _ B F s.asks l.asks l.eZ (K.kept G)).mono ?_;rintro e w1 ⟨S,C⟩;have d:=G.trans C;rcases S.cases with⟨rfl,a1⟩|⟨rfl,a2⟩
 .clear a1 S;obtain⟨b5,b6⟩:=C.rules;have a3:=C.size;simp only[OC] at a3;clear G C;have T:=L.kept d;clear L K;by_cases D:s.on=0
  .have ho:(s.on != 0)=false:=by rw[D];rfl
   clear D;go_wp2
   go_loop [5] (λm=>∃k:Nat,k<=s.cases.length/\m= .a k/\∀j,j<k->eH s n j) (λm=>s.cases.length-(intOf m).toNat)
   case atStart=>exact⟨0,NS _,rfl,λj p=>aT p⟩
   case round=>
    obtain⟨k,hk,rfl,r⟩:=hrel;have t:=Kz r;clear r;by_cases a:k<s.cases.length
    .obtain⟨b,o,rfl,hb,f⟩:=T k a;have v:(s.cases.getD k bS.zero).text.size<=maxLen:=(l.dG _ (by simp[List.getD,a])).1;obtain⟨c,q⟩:=ai (s.cases.getD k bS.zero);rw[<-q] at f v;have i:=Kz q;clear q;unfold maxLen at v;have H:=f 0 _ rfl;have c1:=f 1 _ rfl;simp only[OJ] at H;clear f;by_cases d1:(c.text.size:Int)<=200
     .by_cases d2:0<=c.goto
      .cases x:decide (c.goto<=n-1)
       .have I:n-1<c.goto:=by simpa using x
        go_wp2
        go_ret
        exact⟨Says.no λh=>by have:=h k a;unfold eH at this;rw[<-i.o] at this;obtain⟨y,z,A⟩:=this;omega,d⟩
       .have I:c.goto<=n-1:=by simpa using x
        go_wp2
        go_round
        case rel=>
         refine⟨k+1,A7,C8,λj p=>?_⟩;by_cases e:j=k
         .subst e;unfold eH;rw[<-i.o];exact⟨A7,A7,A7⟩
         .exact bC t j A7
        case measure=>simp[intOf];omega
      .go_wp2
       go_ret
       exact⟨Says.no λh=>by have:=h k a;unfold eH at this;rw[<-i.o] at this;obtain⟨y,z,A⟩:=this;omega,d⟩
     .go_wp2
      go_ret
      exact⟨Says.no λh=>by have:=h k a;unfold eH at this;rw[<-i.o] at this;obtain⟨y,z,A⟩:=this;omega,d⟩
    .go_wp2
     go_ret
     exact⟨Says.yes λj p=>bC t j A7,d⟩
  .have ho:(s.on != 0)=true:=bne_iff_ne.2 D;have o1:0<=s.on:=by have:=R.o;omega
   have o3:s.on<=(s.asks.length:Int)-1:=by have:=R.o;omega
   clear D;go_wp2
   go_loop [5] (λm=>∃k:Nat,k<=s.cases.length/\m= .a k/\∀j,j<k->eH s n j) (λm=>s.cases.length-(intOf m).toNat)
   case atStart=>exact⟨0,NS _,rfl,λj p=>aT p⟩
   case round=>
    obtain⟨k,hk,rfl,r⟩:=hrel;have t:=Kz r;clear r;by_cases a:k<s.cases.length
    .obtain⟨b,o,rfl,hb,f⟩:=T k a;have v:(s.cases.getD k bS.zero).text.size<=maxLen:=(l.dG _ (by simp[List.getD,a])).1;obtain⟨c,q⟩:=ai (s.cases.getD k bS.zero);rw[<-q] at f v;have i:=Kz q;clear q;unfold maxLen at v;have H:=f 0 _ rfl;have c1:=f 1 _ rfl;simp only[OJ] at H;clear f;by_cases d1:(c.text.size:Int)<=200
     .by_cases d2:0<=c.goto
      .cases x:decide (c.goto<=n-1)
       .have I:n-1<c.goto:=by simpa using x
        go_wp2
        go_ret
        exact⟨Says.no λh=>by have:=h k a;unfold eH at this;rw[<-i.o] at this;obtain⟨y,z,A⟩:=this;omega,d⟩
       .have I:c.goto<=n-1:=by simpa using x
        go_wp2
        go_round
        case rel=>
         refine⟨k+1,A7,C8,λj p=>?_⟩;by_cases e:j=k
         .subst e;unfold eH;rw[<-i.o];exact⟨A7,A7,A7⟩
         .exact bC t j A7
        case measure=>simp[intOf];omega
      .go_wp2
       go_ret
       exact⟨Says.no λh=>by have:=h k a;unfold eH at this;rw[<-i.o] at this;obtain⟨y,z,A⟩:=this;omega,d⟩
     .go_wp2
      go_ret
      exact⟨Says.no λh=>by have:=h k a;unfold eH at this;rw[<-i.o] at this;obtain⟨y,z,A⟩:=this;omega,d⟩
    .go_wp2
     go_ret
     exact⟨Says.yes λj p=>bC t j A7,d⟩
 .exact Pg HN.o a2
open Go.ChangeShapes Go.WideShapes Go.ChangeAt Go.RowKit
def laid3 {H : Type} : List (String × DataW H) := [("math/bits.deBruijn32tab", Rows.laid_math_bits_deBruijn32tab), ("math/bits.deBruijn64tab", Rows.laid_math_bits_deBruijn64tab), ("internal/strconv.uint64pow10", Rows.laid_internal_strconv_uint64pow10)]
theorem Tryz.gTab : Tryz.prog.globalNamed "math/bits.deBruijn64tab" = some 3 := by kernel_rfl
theorem Tryz.tTab :(prog.globals[3]?).map (·.type)=some 300:=C9
theorem JG(os:Os)(args:Array Pw):laidMetH prog laid3 ((World.doorLaid prog 400 os).forCall (λ_ _=>0) ⟨#[],args,[]⟩).memory:=
 laidMetH_of_parts3 (fuel:=8) (laidMet_of_run' 8 C9 C9) C9 C9
theorem CG{W:Pv}(h:laidMetH prog laid3 W):oI W:=by
 rw[MakeChecks.laidMetH_plain _ _ _ C9] at h;obtain⟨y,⟨z,A,B,C,D,E,F,G,H,I,⟨J,K,j,L,M,N,c,k,m,n,_,_⟩,_⟩,_,_⟩:=h;obtain rfl:=OQ (Tryz.gTab.symm.trans c);obtain rfl:=OQ (Tryz.tTab.symm.trans k);obtain⟨p,O,rfl,d,P,q,r⟩:=DataW.trod_array underlying300 n;have s:prog.cellsOf 5=1:=C9;have e:=r 15 A8;simp only[Prod.mk.injEq,Rows.laid_math_bits_deBruijn64tab,DataW.agg.injEq] at d;have f:15<p.length:=by rw[q];decide
 have a:=congrArg (λl=>l[15]?) d.1;simp only[List.getElem?_map,NV f,Option.map_some] at a;rw[NV f] at e;obtain⟨t,i,v,_⟩:=DataW.trod_int underlying5 e;have w:t=4:=by
  rw[v] at a;simpa using a.symm
 subst w;have b:=World.var?_cell c m 15;rw[s] at i;have x:j.toList[15]? =some (.int .u8 4):=by
  have:=congrArg (λl=>l[0]?) i;simpa[List.getElem?_take,List.getElem?_drop] using this
 rw[<-Array.getElem?_toList,x] at b;exact⟨World.block_lt_of_cell? _ _ b,b⟩
