import Derived.Test.YtjbipapbckajnaaGreatDoorProg
import Derived.Test.YtjbipapbckajnaaGreatDoorKVBfs
import Derived.WalkSpells
import Derived.WalkLawsBesides
set_option maxRecDepth 100000
set_option maxHeartbeats 25600000
namespace Go.Proofs.YtjbipapbckajnaaGreatDoor
open Go.RowKit Go.Proofs.Tryz
theorem Aa(w:Pv)(s:Ps):∃cap C fr,(convert 9 22 (.string s)).run prog w= .ok (.b w.heap.size s.size cap) (w.drew.alloc (.cells C 5 fr))/\
  ∀j (h:j<s.size),(w.alloc (.cells C 5 fr)).cell? ⟨w.heap.size,j,none⟩=some (.int .u8 (s[j].toNat:Int)):=by
 refine⟨_,_,_,run_bytes_of_string (P:=prog) w 9 22 5 s underlying9 underlying22 underlying5,λj h=>?_⟩;rw[World.cell?_alloc_mark];unfold bytesRow;have b:j<s.data.size:=h;rw[Array.getElem?_append_left (by simpa using b)];simp only[Array.getElem?_map,Array.getElem?_eq_getElem b,Option.map_some]
 rfl
theorem nR(w:Pv)(s:Ps)(m:s.size<=maxLen):
  Calls prog 63 #[.string s] w λe w'=>Says e (jo s)/\w'=w:=by
 unfold maxLen at m;by_cases n:(1:Int)<=s.size
 .by_cases p:(s.size:Int)<=20
  .cases c:(s.toList == [45])
   .go_enter func63,ntmps63
    go_wp2
    go_loop [3] (λi=>∃k:Nat,k<=s.size/\i= .a k/\∀j (h:j<s.size),j<k->iQ s[j]) (λi=>s.size-(intOf i).toNat)
    case atStart=>exact⟨0,NS _,rfl,λj _ a=>aT a⟩
    case round=>
     obtain⟨k,q,rfl,d⟩:=hrel;have f:=Kz d;clear d;by_cases b:k<s.size
     .by_cases r:(s[k].toNat:Int)<33
      .go_wp2
       go_ret
       exact⟨Says.no λh=>by have:=h.2.2.2 k b;unfold iQ at this;omega,rfl⟩
      .by_cases t:126<(s[k].toNat:Int)
       .go_wp2
        go_ret
        exact⟨Says.no λh=>by have:=h.2.2.2 k b;unfold iQ at this;omega,rfl⟩
       .cases l:((s[k].toNat:Int) == 44)
        .go_wp2
         go_round
         case rel=>
          refine⟨k+1,A7,C8,λj a v=>?_⟩;by_cases e:j=k
          .subst e;exact⟨A7,A7,by simpa using l⟩
          .exact bC f j a A7
         case measure=>simp[intOf];omega
        .go_wp2
         go_ret
         exact⟨Says.no λh=>by have:=h.2.2.2 k b;unfold iQ at this;simp at l;omega,rfl⟩
     .go_wp2
      go_ret
      exact⟨Says.yes ⟨A7,A7,c,λj a=>bC f j a A7⟩,rfl⟩
   .go_enter func63,ntmps63
    go_wp2
    go_ret
    exact⟨Says.no λh=>by have:=h.2.2.1;simp[c] at this,rfl⟩
  .go_enter func63,ntmps63
   go_wp2
   go_ret
   exact⟨Says.no λh=>by have:=h.2.1;omega,rfl⟩
 .go_enter func63,ntmps63
  go_wp2
  go_ret
  exact⟨Says.no λh=>by have:=h.1;omega,rfl⟩
theorem mP(w:Pv)(s:Ps)(n:s.size<=maxLen):
  Calls prog 97 #[.string s] w λe w'=>Says e (jo s)/\K_ w w':=by
 unfold maxLen at n;by_cases r:(1:Int)<=s.size
 .by_cases t:(s.size:Int)<=20
  .cases c:(s.toList == [45])
   .obtain⟨v,C,p,q,d⟩:=Aa w s;go_enter func97,ntmps97
    go_wp2
    clear q;go_loopw [20] (λi wr=>∃k:Nat,k<=s.size/\i= .a k/\(∀j (h:j<s.size),j<k->iQ s[j])/\wr= (w.alloc (.cells C 5 p)).drew) (λi _=>s.size-(intOf i).toNat)
    case atStart=>exact⟨0,NS _,rfl,λj _ a=>aT a,rfl⟩
    case round=>
     obtain⟨k,x,rfl,f,rfl⟩:=hrel;have l:=Kz f;clear f;by_cases b:k<s.size
     .have y:=d k b;clear d;by_cases z:(s[k].toNat:Int)<33
      .go_wp2
       go_ret
       exact⟨Says.no λh=>by have:=h.2.2.2 k b;unfold iQ at this;omega,(ah _ _).drew⟩
      .by_cases A:126<(s[k].toNat:Int)
       .go_wp2
        go_ret
        exact⟨Says.no λh=>by have:=h.2.2.2 k b;unfold iQ at this;omega,(ah _ _).drew⟩
       .cases m:((s[k].toNat:Int) == 44)
        .go_wp2
         go_roundw
         case rel=>
          refine⟨k+1,A7,C8,λj a B=>?_,by first | rfl | trivial⟩;by_cases e:j=k
          .subst e;exact⟨A7,A7,by simpa using m⟩
          .exact bC l j a A7
         case measure=>simp[intOf];omega
        .go_wp2
         go_ret
         exact⟨Says.no λh=>by have:=h.2.2.2 k b;unfold iQ at this;simp at m;omega,(ah _ _).drew⟩
     .go_wp2
      go_ret
      exact⟨Says.yes ⟨A7,A7,c,λj a=>bC l j a A7⟩,(ah _ _).drew⟩
   .go_enter func97,ntmps97
    go_wp2
    go_ret
    exact⟨Says.no λh=>by have:=h.2.2.1;simp[c] at this,K_.refl _⟩
  .go_enter func97,ntmps97
   go_wp2
   go_ret
   exact⟨Says.no λh=>by have:=h.2.1;omega,K_.refl _⟩
 .go_enter func97,ntmps97
  go_wp2
  go_ret
  exact⟨Says.no λh=>by have:=h.1;omega,K_.refl _⟩
theorem Tryz.Gt :(prog.info? 9).map (λi=>(i.zero,i.size,i.bytes))=some (some (.string ByteArray.empty),1,16):=C9
def Has(l:List Ps)(v:Ps):Prop:=∃i,i<l.length/\l.getD i ByteArray.empty=v
theorem Ip(w:Pv)(a:Pt)(q:Nat)(l:List Ps)(v:Ps)(s:l.length<=maxLen)(t:Strs w a l):
  Calls prog 142 #[.slice a l.length q,.string v] w λe w'=>(∃r,e= .returned (.a r)/\(0<=r↔Has l v))/\w'=w:=by
 unfold maxLen at s;go_enter func142,ntmps142
 go_wp2
 go_loop [8] (λi=>∃k:Nat,k<=l.length/\i= .a k/\∀j,j<k->l.getD j ByteArray.empty≠v) (λi=>l.length-(intOf i).toNat)
 case atStart=>exact⟨0,NS _,rfl,λj d=>aT d⟩
 case round=>
  obtain⟨k,z,rfl,f⟩:=hrel;have h:=Kz f;clear f;by_cases m:k<l.length
  .obtain⟨b,o,rfl,A,x⟩:=t k m;obtain⟨y,c⟩:=ai (l.getD k ByteArray.empty);rw[<-c] at x;have n:=Kz c;clear c;cases p:(v.toList == y.toList)
   .go_wp2
    go_round
    case rel=>
     refine⟨k+1,A7,C8,λj d=>?_⟩;by_cases e:j=k
     .subst e;rw[<-n.o];exact (tZ p).symm
     .exact bC h j A7
    case measure=>simp[intOf];omega
   .go_wp2
    go_ret
    exact⟨⟨_,rfl,⟨λ_=>⟨k,m,by rw[<-n.o];exact (qD.1 p).symm⟩,λ_=>A7⟩⟩,rfl⟩
  .go_wp2
   go_ret
   exact⟨⟨_,rfl,⟨λB=>A7,λ⟨i,C,e⟩=>Pg e (bC h i A7)⟩⟩,rfl⟩
theorem BV(w:Pv)(a:Pt)(d:Nat)(l:List Ps)(v:Ps)(i:l.length<=maxLen)(j:Strs w a l):
  Calls prog 98 #[.slice a l.length d,.string v] w λe w'=>Says e (Has l v)/\w'=w:=by
 go_enter func98,ntmps98
 go_wp2_with fail
 refine (Ip _ a d l v i j).mono ?_;rintro e n ⟨⟨r,rfl,f⟩,rfl⟩;have h:=Kz f;clear f;by_cases c:0<=r
 .have k:decide (0<=r)=true:=by simpa using c
  go_wp2
  go_ret
  exact⟨Says.congr (p:=True) (Says.yes trivial) ⟨λ_=>h.o.1 c,λ_=>trivial⟩,rfl⟩
 .have k:decide (0<=r)=false:=by simpa using c
  go_wp2
  go_ret
  exact⟨Says.congr (p:=False) (Says.no id) ⟨False.elim,λm=>by have:=h.o.2 m;omega⟩,rfl⟩
theorem sK(w:Pv)(asks:Nat)(on:Int)(cases:Nat)(els fall:Int)(fin bad:Bool)(give:Ps)(i j:Pt)(k l:Nat)(m:asks<=maxLen)(h2:cases<=maxLen)(n:give.size<=maxLen):
  Calls prog 258 #[.agg #[.slice i asks k,.a on,.slice j cases l,.a els,.a fall,.bool fin,.bool bad,.string give]] w
   λe w'=>Says e (asks=0/\on=0/\cases=0/\els=0/\fall=0/\give.size<=30)/\K_ w w':=by
 unfold maxLen at m h2 n;cases a:((asks:Int) == 0)
 .go_enter func258,ntmps258
  go_wp2
  all_goals
   go_ret
   exact⟨Says.no λh=>by simp at a;omega,ah _ _⟩
 .obtain rfl:asks=0:=by simp at a;omega
  clear a;cases b:(on == 0)
  .go_enter func258,ntmps258
   go_wp2
   all_goals
    go_ret
    exact⟨Says.no λh=>by simp at b;omega,ah _ _⟩
  .obtain rfl:on=0:=by simpa using b
   clear b;cases c:((cases:Int) == 0)
   .go_enter func258,ntmps258
    go_wp2
    go_ret
    exact⟨Says.no λh=>by simp at c;omega,ah _ _⟩
   .obtain rfl:cases=0:=by simp at c;omega
    clear c;cases d:(els == 0)
    .go_enter func258,ntmps258
     go_wp2
     go_ret
     exact⟨Says.no λh=>by simp at d;omega,ah _ _⟩
    .obtain rfl:els=0:=by simpa using d
     clear d;cases f:(fall == 0)
     .go_enter func258,ntmps258
      go_wp2
      go_ret
      exact⟨Says.no λh=>by simp at f;omega,ah _ _⟩
     .obtain rfl:fall=0:=by simpa using f
      clear f;by_cases p:(give.size:Int)<=30
      .go_enter func258,ntmps258
       go_wp2
       go_ret
       exact⟨Says.yes D6,ah _ _⟩
      .go_enter func258,ntmps258
       go_wp2
       go_ret
       exact⟨Says.no λh=>A7,ah _ _⟩
structure b_ where
 code:Int
 over:Bool
 at':Int
 text:Ps
def b_.cells(g:b_):List Pw:=[.a g.code,.bool g.over,.a g.at',.string g.text]
theorem yB(w:Pv)(c:Xq)(a:c.text.size<=maxLen):
  Calls prog 205 #[.agg #[.bool c.fail,.string c.text]] w λe w'=>Says e (200<c.text.size)/\K_ w w':=by
 unfold maxLen at a;go_enter func205,ntmps205
 go_wp2
 go_ret
 exact⟨(Says.dec _).congr ⟨λh=>A7,λh=>A7⟩,ah _ _⟩
theorem FB(w:Pv)(c:Xq):
  Calls prog 168 #[.agg #[.bool c.fail,.string c.text]] w λe w'=>Says e (c.fail=true)/\K_ w w':=by
 go_enter func168,ntmps168
 go_wp2
 go_ret
 exact⟨⟨c.fail,rfl,Iff.rfl⟩,ah _ _⟩
def Ba(l:List Xq)(p:Xq->Prop)(r:Int):Prop:=
 (∃i,i<l.length/\r= (i:Int)/\p (l.getD i Xq.zero)/\∀j,j<i->¬p (l.getD j Xq.zero))\/(r= -1/\∀j,j<l.length->¬p (l.getD j Xq.zero))
def mR(l:List Xq)(p:Xq->Prop)(k:Nat):Prop:=∀j,j<k->¬p (l.getD j Xq.zero)
def pU(c:Xq):Prop:=200<c.text.size
def iG(c:Xq):Prop:=c.fail=true
theorem IA(w:Pv)(a:Pt)(C:Nat)(l:List Xq)(D:l.length<=maxLen)(E:∀c∈l,c.text.size<=maxLen)(F:eU w a l):
  Calls prog 167 #[.slice a l.length C,.func (.func 205) #[] #[]] w λe w'=>(∃r,e= .returned (.a r)/\Ba l pU r)/\K_ w w':=by
 unfold maxLen at D;go_enter func167,ntmps167
 go_wp2
 go_loopw [8] (λi wr=>∃k:Nat,k<=l.length/\i= .a k/\K_ w wr/\mR l pU k) (λi _=>l.length-(intOf i).toNat)
 case atStart=>exact⟨0,NS _,rfl,K_.refl _,λj h=>aT h⟩
 case round=>
  obtain⟨k,J,rfl,d,s⟩:=hrel;have m:=Kz s;clear s;by_cases n:k<l.length
  .obtain⟨b,o,rfl,K,f⟩:=F.kept d k n;have t:(l.getD k Xq.zero).text.size<=maxLen:=E _ (by simp[List.getD,n]);obtain⟨c,p⟩:=ai (l.getD k Xq.zero);rw[<-p] at f t;have v:=Kz p;clear p;have x:=f 0 _ rfl;have G:=f 1 _ rfl;simp only[OJ] at x;clear f;go_wp2_with fail
   refine (yB _ c t).mono ?_;rintro e L ⟨q,y⟩;have z:=d.trans y;clear x G d y;rcases q.cases with⟨rfl,A⟩|⟨rfl,B⟩
   .have H:=Kz A;clear A q;go_wp2
    go_ret
    exact⟨⟨k,rfl,Or.inl ⟨k,n,rfl,by rw[<-v.o];exact H.o,m.o⟩⟩,z⟩
   .have I:=Kz B;clear B q;go_wp2
    go_roundw
    case rel=>
     refine⟨k+1,A7,C8,z,λj h=>?_⟩;by_cases e:j=k
     .subst e;rw[<-v.o];exact I.o
     .exact m.o j A7
    case measure=>simp[intOf];omega
  .go_wp2
   go_ret
   exact⟨⟨-1,rfl,Or.inr ⟨rfl,λj h=>m.o j A7⟩⟩,d⟩
theorem AB(w:Pv)(a:Pt)(B:Nat)(l:List Xq)(C:l.length<=maxLen)(D:∀c∈l,c.text.size<=maxLen)(E:eU w a l):
  Calls prog 167 #[.slice a l.length B,.func (.func 168) #[] #[]] w λe w'=>(∃r,e= .returned (.a r)/\Ba l iG r)/\K_ w w':=by
 unfold maxLen at C;go_enter func167,ntmps167
 go_wp2
 go_loopw [8] (λi wr=>∃k:Nat,k<=l.length/\i= .a k/\K_ w wr/\mR l iG k) (λi _=>l.length-(intOf i).toNat)
 case atStart=>exact⟨0,NS _,rfl,K_.refl _,λj h=>aT h⟩
 case round=>
  obtain⟨k,J,rfl,d,s⟩:=hrel;have m:=Kz s;clear s;by_cases n:k<l.length
  .obtain⟨b,o,rfl,K,f⟩:=E.kept d k n;have F:(l.getD k Xq.zero).text.size<=maxLen:=D _ (by simp[List.getD,n]);obtain⟨c,p⟩:=ai (l.getD k Xq.zero);rw[<-p] at f F;have t:=Kz p;clear p;have v:=f 0 _ rfl;have G:=f 1 _ rfl;simp only[OJ] at v;clear f;go_wp2_with fail
   refine (FB _ c).mono ?_;rintro e L ⟨q,x⟩;have y:=d.trans x;clear v G d x;rcases q.cases with⟨rfl,z⟩|⟨rfl,A⟩
   .have H:=Kz z;clear z q;go_wp2
    go_ret
    exact⟨⟨k,rfl,Or.inl ⟨k,n,rfl,by rw[<-t.o];exact H.o,m.o⟩⟩,y⟩
   .have I:=Kz A;clear A q;go_wp2
    go_roundw
    case rel=>
     refine⟨k+1,A7,C8,y,λj h=>?_⟩;by_cases e:j=k
     .subst e;rw[<-t.o];exact I.o
     .exact m.o j A7
    case measure=>simp[intOf];omega
  .go_wp2
   go_ret
   exact⟨⟨-1,rfl,Or.inr ⟨rfl,λj h=>m.o j A7⟩⟩,d⟩
theorem Bp(w:Pv)(a:Pt)(f:Nat)(l:List Xq)(n:l.length<=maxLen)(p:∀c∈l,c.text.size<=maxLen)(q:eU w a l):
  Calls prog 204 #[.slice a l.length f,.func (.func 205) #[] #[]] w λe w'=>Says e (∃i,i<l.length/\pU (l.getD i Xq.zero))/\K_ w w':=by
 go_enter func204,ntmps204
 go_wp2_with fail
 refine (IA _ a f l n p q).mono ?_;rintro e v ⟨⟨r,rfl,h⟩,j⟩;have k:=Kz h;clear h;by_cases m:0<=r
 .have s:decide (0<=r)=true:=by simpa using m
  go_wp2
  go_ret
  exact⟨Says.yes (by rcases k.o with⟨i,b,_,d,_⟩ | ⟨rfl,_⟩;exact⟨i,b,d⟩;omega),j⟩
 .have s:decide (0<=r)=false:=by simpa using m
  go_wp2
  go_ret
  exact⟨Says.no (by rcases k.o with⟨i,b,rfl,d,_⟩ | ⟨rfl,t⟩;omega;exact λ⟨i,b,d⟩=>t i b d),j⟩
def uo(s:Xj)(t:Ps)(i:Nat):Prop:=(s.cases.getD i bS.zero).text=t
def CaseTo(s:Xj)(t:Ps)(k:Nat):Prop:=∀j,j<k->¬uo s t j
def ES(s:Xj)(i:Nat):Int:=(s.cases.getD i bS.zero).goto
def mJ(ans:List Xq)(i:Int):Ps:=(ans.getD i.toNat Xq.zero).text
def xL(s:Xj)(ans:List Xq)(r:Int):Prop:=
 (ans.length=0/\r=s.els)\/
 (ans.length≠0/\((∃i,i<s.cases.length/\uo s (mJ ans s.on) i/\CaseTo s (mJ ans s.on) i/\r=ES s i)\/(CaseTo s (mJ ans s.on) s.cases.length/\r=s.els)))
theorem xL.unique{s:Xj}{ans:List Xq}{r c:Int}(h:xL s ans r)(f:xL s ans c):r=c:=by
 rcases h with⟨k,rfl⟩ | ⟨k,⟨i,l,d,a,rfl⟩ | ⟨a,rfl⟩⟩ <;> rcases f with⟨m,rfl⟩ | ⟨m,⟨j,n,e,b,rfl⟩ | ⟨b,rfl⟩⟩
 all_goals first | rfl | (exfalso;omega) | skip
 .rcases Pd i j with h|rfl|h
  .exact Pg d (b i h)
  .rfl
  .exact Pg e (a j h)
 .exact Pg d (b i l)
 .exact Pg e (a j n)
theorem ED(w:Pv)(s:Xj)(n d a:Pt)(p q O:Nat)(ans:List Xq)(P:s.cases.length<=maxLen)(Q:lI w d s.cases)(_hl:ans.length<=maxLen)(R:eU w a ans)
  (F:ans.length≠0->0<=s.on/\s.on<ans.length):
  Calls prog 206 #[.agg #[.slice n s.asks.length p,.a s.on,.slice d s.cases.length q,.a s.els,.a s.fall,.bool s.fin,.bool s.bad,.string s.give],.slice a ans.length O] w λe w'=>(∃r,e= .returned (.a r)/\xL s ans r)/\K_ w w':=by
 unfold maxLen at _hl P;have S:K_ w (w.alloc (.cells #[.slice n s.asks.length p,.a s.on,.slice d s.cases.length q,.a s.els,.a s.fall,.bool s.fin,.bool s.bad,.string s.give] 238)):=ah _ _;cases f:((ans.length:Int) == 0)
 .have v:ans.length≠0:=by simp at f;simpa using f
  obtain⟨G,T⟩:=F v;clear F;have H:=Kz v;clear v;obtain⟨t,I⟩:=ai (mJ ans s.on);have h:=Kz I;clear I;obtain⟨x,y⟩:=Int.eq_ofNat_of_zero_le G;have U:=Kz y;go_enter func206,ntmps206
  rw[y] at G T⊢;clear y;go_wp2
  go_loopw [17] (λz wr=>∃k:Nat,k<=s.cases.length/\z= .a k/\K_ (w.alloc (.cells #[.slice n s.asks.length p,.a x,.slice d s.cases.length q,.a s.els,.a s.fall,.bool s.fin,.bool s.bad,.string s.give] 238)) wr/\CaseTo s t k) (λz _=>s.cases.length-(intOf z).toNat)
  case atStart=>exact⟨0,NS _,rfl,K_.refl _,λj A=>aT A⟩
  case round=>
   obtain⟨k,a0,rfl,i,J⟩:=hrel;have B:=Kz J;clear J;have V:=i.size;simp only[OC] at V;have l:K_ w wr:=K_.trans (ah _ _) i;obtain⟨a1,a2⟩:=i.rules;by_cases K:k<s.cases.length
   .obtain⟨b,o,rfl,hb,m⟩:=Q.kept l k K;obtain⟨W,o',rfl,a3,L⟩:=R.kept l x A7;obtain⟨c,C⟩:=ai (s.cases.getD k bS.zero);rw[<-C] at m;have D:=Kz C;clear C;have X:=m 0 _ rfl;have c1:=m 1 _ rfl;have Y:=L 1 _ rfl;simp only[OJ] at X;have M:(ans.getD x Xq.zero).text=t:=by have E:=h.o;have Z:=U.o;unfold mJ at E;rw[Z] at E;exact E.symm
    rw[M] at Y;clear m L M;have z0:w.heap.size<wr.heap.size:=A7;have z1:w.heap.size<wr.heap.size+1:=A7;have z2:W<wr.heap.size+1:=A7;cases N:(c.text.toList == t.toList)
    .go_wp2
     go_region
     all_goals
      go_wp2
      go_roundw
      case rel=>
       refine⟨k+1,A7,C8,by repeat (first | apply K_.drew | apply K_.alloc | exact i),λj A=>?_⟩;by_cases e:j=k
       .subst e;unfold uo;rw[<-D.o];exact tZ N
       .exact B.o j A7
      case measure=>simp[intOf];omega
    .go_wp2
     go_region
     all_goals
      go_wp2
      go_ret
      exact⟨⟨c.goto,rfl,Or.inr ⟨H.o,Or.inl ⟨k,K,by unfold uo;rw[<-D.o,<-h.o];exact qD.1 N,by rw[<-h.o];exact B.o,by unfold ES;rw[<-D.o]⟩⟩⟩,by repeat (first | apply K_.drew | apply K_.alloc | exact l)⟩
   .go_wp2
    go_ret
    exact⟨⟨s.els,rfl,Or.inr ⟨H.o,Or.inr ⟨by rw[<-h.o];exact λj A=>B.o j A7,rfl⟩⟩⟩,l⟩
 .go_enter func206,ntmps206
  go_wp2
  go_ret
  exact⟨⟨s.els,rfl,Or.inl ⟨by simp at f;simpa using f,rfl⟩⟩,S⟩
def b_.none :b_:=⟨1,false,0,⟨#[]⟩⟩
def jY(s:Xj)(i:Nat):Ps:=(⟨#[98,101,108,111,119,32]⟩:Ps)++s.asks.getD i ByteArray.empty
def yw(s:Xj)(ans:List Xq):Prop:=ans.length=s.asks.length/\¬∃i,i<ans.length/\pU (ans.getD i Xq.zero)
def Followed(s:Xj)(ans:List Xq)(g:b_):Prop:=
 (¬yw s ans/\g=b_.none)\/
 (yw s ans/\((∃i,i<ans.length/\iG (ans.getD i Xq.zero)/\mR ans iG i/\((s.fall= -1/\g= ⟨0,true,0,jY s i⟩)\/(s.fall≠ -1/\g= ⟨0,false,s.fall,⟨#[]⟩⟩)))\/
  (mR ans iG ans.length/\∃r,xL s ans r/\g= ⟨0,false,r,⟨#[]⟩⟩)))
theorem Followed.unique{s:Xj}{ans:List Xq}{g k:b_}(h:Followed s ans g)(n:Followed s ans k):g=k:=by
 rcases h with⟨a,rfl⟩ | ⟨a,⟨i,p,l,b,⟨c,rfl⟩ | ⟨c,rfl⟩⟩ | ⟨b,v,q,rfl⟩⟩ <;> rcases n with⟨d,rfl⟩ | ⟨d,⟨j,r,m,e,⟨f,rfl⟩ | ⟨f,rfl⟩⟩ | ⟨e,w,t,rfl⟩⟩
 all_goals first | rfl | exact Pg d a | exact Pg a d | exact Pg f c | exact Pg c f | exact Pg l (e i p) | exact Pg m (b j r) | skip
 .rcases Pd i j with h|rfl|h
  .exact Pg l (e i h)
  .rfl
  .exact Pg m (b j h)
 .rw[q.unique t]
theorem Tryz.dZ :(prog.info? 186).map (·.size)=some 4:=C9
theorem DL(w:Pv)(s:Xj)(f h a:Pt)(k l t:Nat)(ans:List Xq)(M:s.Fits)(Z:Strs w f s.asks)(hC:lI w h s.cases)(v:ans.length<=maxLen)(N:∀c∈ans,c.text.size<=maxLen)(F:eU w a ans)
  (a1:s.asks.length≠0->0<=s.on/\s.on<s.asks.length) (a2:∀i,i<s.asks.length->(s.asks.getD i ByteArray.empty).size<=20):
  Calls prog 177 #[.agg #[.slice f s.asks.length k,.a s.on,.slice h s.cases.length l,.a s.els,.a s.fall,.bool s.fin,.bool s.bad,.string s.give],.slice a ans.length t] w λe w'=>(∃g,e= .returned (.agg g.cells.toArray)/\Followed s ans g)/\K_ w w':=by
 have a3:=v;have a4:=M.asks;unfold maxLen at a3 a4;have x:K_ w ((w.alloc (.cells #[.slice f s.asks.length k,.a s.on,.slice h s.cases.length l,.a s.els,.a s.fall,.bool s.fin,.bool s.bad,.string s.give] 238)).alloc (.cells #[.a 0,.bool false,.a 0,.string ⟨#[]⟩] 186)):=(ah _ _).alloc _;cases G:((ans.length:Int) != (s.asks.length:Int))
 .have O:ans.length=s.asks.length:=by simp at G;omega
  have y:=Kz O;clear O;go_enter func177,ntmps177
  go_wp2_with fail
  refine (Bp _ a t ans v N (F.kept x)).mono ?_;rintro e z ⟨H,j⟩;have A:=x.trans j;have P:Row z (w.heap.size+1) 4:=Row.kept (by have:=Row.made (w.alloc (.cells #[.slice f s.asks.length k,.a s.on,.slice h s.cases.length l,.a s.els,.a s.fall,.bool s.fin,.bool s.bad,.string s.give] 238)) #[.a 0,.bool false,.a 0,.string ⟨#[]⟩] 186;simpa using this) j;have I:=Kz P;clear P;obtain⟨b7,b8⟩:=j.rules;have a5:=j.size;simp only[OC] at a5;rcases H.cases with⟨rfl,Q⟩|⟨rfl,R⟩
  .have HY:=Kz Q;clear Q H x j;go_wp2
   have b:=NU z (w.heap.size+1) 0 b_.none.cells (I.o.there (o:=0) (m:=4) (NQ _));exact X_ b_.none.cells _ results177 rfl b underlying186 rfl Tryz.dZ rfl ⟨⟨_,rfl,Or.inl ⟨λB=>B.2 HY.o,rfl⟩⟩,K_.setCells (g:=w.heap.size+1) A7 b_.none.cells 0 A⟩
  .have HN:=Kz R;clear R H x j;have z0:w.heap.size<z.heap.size:=A7;have z1:w.heap.size+1<z.heap.size:=A7;go_wp2_with fail
   refine (AB _ a t ans v N (F.kept A)).mono ?_;rintro e C ⟨⟨c1,rfl,hr⟩,n⟩;have d:=A.trans n;have S:=I.o.kept n;have D:=Kz S;obtain⟨c2,c3⟩:=n.rules;have c4:=n.size;have y0:w.heap.size<C.heap.size:=A7;have y1:w.heap.size+1<C.heap.size:=A7;clear S I n A;have J:Hid (yw s ans):=⟨y.o,HN.o⟩;rcases hr with⟨i,T,rfl,U,p⟩|⟨rfl,p⟩
   .have V:=Kz U;have E:=Kz p;clear U p;cases W:(s.fall == -1)
    .go_wp2
     have b:=NU C (w.heap.size+1) 0 [.a 0,.bool false,.a s.fall,.string ⟨#[]⟩] (D.o.there (o:=0) (m:=4) (NQ _));exact X_ [.a 0,.bool false,.a s.fall,.string ⟨#[]⟩] _ results177 rfl b underlying186 rfl Tryz.dZ rfl ⟨⟨⟨0,false,s.fall,⟨#[]⟩⟩,rfl,Or.inr ⟨J.o,Or.inl ⟨i,T,V.o,E.o,Or.inr ⟨by simpa using W,rfl⟩⟩⟩⟩,K_.setCells (g:=w.heap.size+1) A7 [.a 0,.bool false,.a s.fall,.string ⟨#[]⟩] 0 d⟩
    .obtain⟨ba,oa,rfl,c9,a9⟩:=Z.kept d i (by have:=y.o;omega);have b0:i<s.asks.length:=by have:=y.o;omega
     obtain⟨K,L⟩:=ai (s.asks.getD i ByteArray.empty);have b1:=a2 i b0;rw[<-L] at a9 b1;have HV:=Kz L;clear L;go_wp2
     have b:=NU C (w.heap.size+1) 0 [.a 0,.bool true,.a 0,.string ((⟨#[98,101,108,111,119,32]⟩:Ps)++K)] (D.o.there (o:=0) (m:=4) (NQ _));exact X_ [.a 0,.bool true,.a 0,.string ((⟨#[98,101,108,111,119,32]⟩:Ps)++K)] _ results177 rfl b underlying186 rfl Tryz.dZ rfl ⟨⟨⟨0,true,0,_⟩,rfl,Or.inr ⟨J.o,Or.inl ⟨i,T,V.o,E.o,Or.inl ⟨by simpa using W,by unfold jY;rw[<-HV.o]⟩⟩⟩⟩,K_.setCells (g:=w.heap.size+1) A7 [.a 0,.bool true,.a 0,.string ((⟨#[98,101,108,111,119,32]⟩:Ps)++K)] 0 d⟩
   .have E:=Kz p;clear p;go_wp2_with fail
    refine (ED _ s f h a k l t ans M.cases (hC.kept d) v (F.kept d) (λB=>by have h1:=y.o;have h2:=a1 A7;omega)).mono ?_;rintro e w3 ⟨⟨q,rfl,X⟩,r⟩;have K3:=d.trans r;have Y:=D.o.kept r;have⟨b5,HQ⟩:=aH Y X;obtain⟨d2,d3⟩:=r.rules;have d4:=r.size;clear Y D r d X;go_wp2
    have b:=NU w3 (w.heap.size+1) 0 [.a 0,.bool false,.a q,.string ⟨#[]⟩] (b5.o.there (o:=0) (m:=4) (NQ _));exact X_ [.a 0,.bool false,.a q,.string ⟨#[]⟩] _ results177 rfl b underlying186 rfl Tryz.dZ rfl ⟨⟨⟨0,false,q,⟨#[]⟩⟩,rfl,Or.inr ⟨J.o,Or.inr ⟨E.o,q,HQ.o,rfl⟩⟩⟩,K_.setCells (g:=w.heap.size+1) A7 [.a 0,.bool false,.a q,.string ⟨#[]⟩] 0 K3⟩
 .go_enter func177,ntmps177
  go_wp2
  have b:=Xz (w.alloc (.cells #[.slice f s.asks.length k,.a s.on,.slice h s.cases.length l,.a s.els,.a s.fall,.bool s.fin,.bool s.bad,.string s.give] 238)) #[.a 1,.bool false,.a 0,.string ⟨#[]⟩] 186;rw[OC] at b;exact X_ b_.none.cells _ results177 rfl b underlying186 rfl Tryz.dZ rfl ⟨⟨_,rfl,Or.inl ⟨λB=>by simp at G;exact G (by have:=B.1;omega),rfl⟩⟩,(ah _ _).alloc _⟩
theorem Ny(vs:Array Pw)(W:Pv):(Instr.typeAssert (.iface 238 (.agg vs)) 211 238 true).run prog W= .ok (.tuple #[.agg vs,.bool true]) W:=C9
theorem xA(w:Pv)(s:Xj)(B:s.fin=false)(d f a:Pt)(j k l:Nat)(ans:List Xq)(C:s.Fits)(D:Strs w d s.asks)(E:lI w f s.cases)(F:ans.length<=maxLen)(G:∀c∈ans,c.text.size<=maxLen)(H:eU w a ans)
  (q:s.asks.length≠0->0<=s.on/\s.on<s.asks.length) (r:∀i,i<s.asks.length->(s.asks.getD i ByteArray.empty).size<=20):
  Calls prog 148 #[.iface 238 (.agg #[.slice d s.asks.length j,.a s.on,.slice f s.cases.length k,.a s.els,.a s.fall,.bool false,.bool s.bad,.string s.give]),.slice a ans.length l] w λe w'=>(∃g,e= .returned (.agg g.cells.toArray)/\Followed s ans g)/\K_ w w':=by
 have v:∀W,K_ w W->Calls prog 177 #[.agg #[.slice d s.asks.length j,.a s.on,.slice f s.cases.length k,.a s.els,.a s.fall,.bool false,.bool s.bad,.string s.give],.slice a ans.length l] W λe w'=>(∃g,e= .returned (.agg g.cells.toArray)/\Followed s ans g)/\K_ W w':=λW n=>by
  have h:=DL W s d f a j k l ans C (D.kept n) (E.kept n) F G (H.kept n) q r;rw[B] at h;exact h
 have I:=Kz v;clear v q r;have O:=Ny;go_enter func148,ntmps148
 go_wp2_with fail
 refine (bC I _ F5).mono ?_;rintro e p ⟨⟨g,rfl,y⟩,b⟩;have z:Row p w.heap.size 4:=Row.kept (Row.alloc (by have:=Row.made w #[.a 0,.bool false,.a 0,.string ⟨#[]⟩] 186;simpa using this) _) b;have J:K_ w p:=K_.trans F5 b;obtain⟨c,o,t,x⟩:=g;have⟨K,L⟩:=aH y z;clear y z;obtain⟨P,Q⟩:=b.rules;have M:=b.size;simp only[OC] at M;clear b;have A:(b_.mk c o t x).cells.toArray= #[.a c,.bool o,.a t,.string x]:=rfl;rw[A];clear A;go_wp2
 have N:=NU p w.heap.size 0 (b_.mk c o t x).cells (L.o.there (o:=0) (m:=4) (NQ _));exact X_ (b_.mk c o t x).cells _ results148 rfl N underlying186 rfl Tryz.dZ rfl ⟨⟨_,rfl,K.o⟩,K_.setCells (g:=w.heap.size) A7 (b_.mk c o t x).cells 0 J⟩
