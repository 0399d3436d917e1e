import Derived.Test.YtbmhchdegdjfkaaGreatDoorKVBfs
import Derived.Test.YtbmhchdegdjfkaaGreatDoorProg
import Derived.WalkSpells
import Derived.WalkLawsBesides
import Derived.Deep.RegionWith
set_option maxRecDepth 100000
set_option maxHeartbeats 25600000
namespace Go.Proofs.YtbmhchdegdjfkaaGreatDoor
open Go.RowKit Go.Proofs.Tryz
structure bN where
 code:Int
 over:Bool
 at':Int
 text:KC
def bN.cells(g:bN):List KI:=[.int .i64 g.code,.bool g.over,.int .i64 g.at',.string g.text]
theorem uI(w:KH)(c:Xz)(a:c.text.size<=maxLen):
  Calls prog 193 #[.agg #[.bool c.fail,.string c.text]] w fun e w'=>Says e (200<c.text.size)/\K_ w w':=by
 unfold maxLen at a;go_enter func193,ntmps193
 go_wp2
 go_ret
 exact⟨(Says.dec _).congr ⟨fun h=>by omega,fun h=>by omega⟩,ag _ _⟩
theorem Ca(w:KH)(c:Xz):
  Calls prog 170 #[.agg #[.bool c.fail,.string c.text]] w fun e w'=>Says e (c.fail=true)/\K_ w w':=by
 go_enter func170,ntmps170
 go_wp2
 go_ret
 exact⟨⟨c.fail,rfl,Iff.rfl⟩,ag _ _⟩
def xC(l:List Xz)(p:Xz->Prop)(r:Int):Prop:=
 (∃i,i<l.length/\r= (i:Int)/\p (l.getD i Xz.zero)/\∀j,j<i->¬p (l.getD j Xz.zero))\/(r= -1/\∀j,j<l.length->¬p (l.getD j Xz.zero))
def lm(l:List Xz)(p:Xz->Prop)(k:Nat):Prop:=∀j,j<k->¬p (l.getD j Xz.zero)
def ni(c:Xz):Prop:=200<c.text.size
def gP(c:Xz):Prop:=c.fail=true
theorem DY(w:KH)(a:KG)(D:Nat)(l:List Xz)(E:l.length<=maxLen)(F:∀c∈l,c.text.size<=maxLen)(G:ed w a l):
  Calls prog 169 #[.slice a l.length D,.func (.func 193) #[] #[]] w fun e w'=>(∃r,e= .returned (.int .i64 r)/\xC l ni r)/\K_ w w':=by
 unfold maxLen at E;go_enter func169,ntmps169
 go_wp2
 go_loopw [8] (fun i wr=>∃k:Nat,k<=l.length/\i= .int .i64 k/\K_ w wr/\lm l ni k) (fun i _=>l.length-(intOf i).toNat)
 case atStart=>exact⟨0,Ja _,rfl,K_.refl _,fun j h=>aP h⟩
 case round=>
  obtain⟨k,K,rfl,d,s⟩:=hrel;have m:=Kz s;clear s;by_cases n:k<l.length
  ·obtain⟨b,o,rfl,L,f⟩:=G.kept d k n;have t:(l.getD k Xz.zero).text.size<=maxLen:=F _ (by simp[List.getD,n]);obtain⟨c,p⟩:=ah (l.getD k Xz.zero);rw[<-p] at f t;have v:=Kz p;clear p;have x:=f 0 _ rfl;have H:=f 1 _ rfl;simp only[JM] at x;clear f;go_wp2_with fail
   refine (uI _ c t).mono ?_;rintro e w1 ⟨q,y⟩;have A:=d.trans y;clear x H d y;rcases q.cases with⟨rfl,B⟩|⟨rfl,C⟩
   ·have I:=Kz B;clear B q;go_wp2
    go_ret
    exact⟨⟨k,rfl,Or.inl ⟨k,n,rfl,by rw[<-v.o];exact I.o,m.o⟩⟩,A⟩
   ·have J:=Kz C;clear C q;go_wp2
    go_roundw
    case rel=>
     refine⟨k+1,by omega,by go_num,A,fun j h=>?_⟩;by_cases e:j=k
     ·subst e;rw[<-v.o];exact J.o
     ·exact m.o j (by omega)
    case measure=>simp[intOf];omega
  ·go_wp2
   go_ret
   exact⟨⟨-1,rfl,Or.inr ⟨rfl,fun j h=>m.o j (by omega)⟩⟩,d⟩
theorem w_(w:KH)(a:KG)(C:Nat)(l:List Xz)(D:l.length<=maxLen)(E:∀c∈l,c.text.size<=maxLen)(F:ed w a l):
  Calls prog 169 #[.slice a l.length C,.func (.func 170) #[] #[]] w fun e w'=>(∃r,e= .returned (.int .i64 r)/\xC l gP r)/\K_ w w':=by
 unfold maxLen at D;go_enter func169,ntmps169
 go_wp2
 go_loopw [8] (fun i wr=>∃k:Nat,k<=l.length/\i= .int .i64 k/\K_ w wr/\lm l gP k) (fun i _=>l.length-(intOf i).toNat)
 case atStart=>exact⟨0,Ja _,rfl,K_.refl _,fun j h=>aP h⟩
 case round=>
  obtain⟨k,K,rfl,d,s⟩:=hrel;have m:=Kz s;clear s;by_cases n:k<l.length
  ·obtain⟨b,o,rfl,L,f⟩:=F.kept d k n;have G:(l.getD k Xz.zero).text.size<=maxLen:=E _ (by simp[List.getD,n]);obtain⟨c,p⟩:=ah (l.getD k Xz.zero);rw[<-p] at f G;have t:=Kz p;clear p;have v:=f 0 _ rfl;have H:=f 1 _ rfl;simp only[JM] at v;clear f;go_wp2_with fail
   refine (Ca _ c).mono ?_;rintro e w1 ⟨q,x⟩;have y:=d.trans x;clear v H d x;rcases q.cases with⟨rfl,A⟩|⟨rfl,B⟩
   ·have I:=Kz A;clear A q;go_wp2
    go_ret
    exact⟨⟨k,rfl,Or.inl ⟨k,n,rfl,by rw[<-t.o];exact I.o,m.o⟩⟩,y⟩
   ·have J:=Kz B;clear B q;go_wp2
    go_roundw
    case rel=>
     refine⟨k+1,by omega,by go_num,y,fun j h=>?_⟩;by_cases e:j=k
     ·subst e;rw[<-t.o];exact J.o
     ·exact m.o j (by omega)
    case measure=>simp[intOf];omega
  ·go_wp2
   go_ret
   exact⟨⟨-1,rfl,Or.inr ⟨rfl,fun j h=>m.o j (by omega)⟩⟩,d⟩
theorem xO(w:KH)(a:KG)(f:Nat)(l:List Xz)(n:l.length<=maxLen)(p:∀c∈l,c.text.size<=maxLen)(q:ed w a l):
  Calls prog 192 #[.slice a l.length f,.func (.func 193) #[] #[]] w fun e w'=>Says e (∃i,i<l.length/\ni (l.getD i Xz.zero))/\K_ w w':=by
 go_enter func192,ntmps192
 go_wp2_with fail
 refine (DY _ a f l n p q).mono ?_;rintro e w1 ⟨⟨r,rfl,h⟩,j⟩;have k:=Kz h;clear h;by_cases m:0<=r
 ·have s:decide (0<=r)=true:=by simpa using m
  go_wp2
  go_ret
  exact⟨Says.yes (by rcases k.o with⟨i,b,_,d,_⟩ | ⟨rfl,_⟩;exact⟨i,b,d⟩;omega),j⟩
 ·have s:decide (0<=r)=false:=by simpa using m
  go_wp2
  go_ret
  exact⟨Says.no (by rcases k.o with⟨i,b,rfl,d,_⟩ | ⟨rfl,t⟩;omega;exact fun ⟨i,b,d⟩=>t i b d),j⟩
def qD(s:Xq)(t:KC)(i:Nat):Prop:=(s.cases.getD i bD.zero).text=t
def CaseTo(s:Xq)(t:KC)(k:Nat):Prop:=∀j,j<k->¬qD s t j
def Bu(s:Xq)(i:Nat):Int:=(s.cases.getD i bD.zero).goto
def lg(ans:List Xz)(i:Int):KC:=(ans.getD i.toNat Xz.zero).text
def uj(s:Xq)(ans:List Xz)(r:Int):Prop:=
 (ans.length=0/\r=s.els)\/
 (ans.length≠0/\((∃i,i<s.cases.length/\qD s (lg ans s.on) i/\CaseTo s (lg ans s.on) i/\r=Bu s i)\/(CaseTo s (lg ans s.on) s.cases.length/\r=s.els)))
theorem uj.unique{s:Xq}{ans:List Xz}{r r':Int}(h:uj s ans r)(e:uj s ans r'):r=r':=by
 rcases h with⟨f,rfl⟩ | ⟨f,⟨i,k,c,a,rfl⟩ | ⟨a,rfl⟩⟩ <;> rcases e with⟨l,rfl⟩ | ⟨l,⟨j,m,d,b,rfl⟩ | ⟨b,rfl⟩⟩
 all_goals first | rfl | (exfalso;omega) | skip
 ·rcases Ke i j with h|rfl|h
  ·exact Ki c (b i h)
  ·rfl
  ·exact Ki d (a j h)
 ·exact Ki c (b i k)
 ·exact Ki d (a j m)
theorem Ba(w:KH)(s:Xq)(n d a:KG)(p q P:Nat)(ans:List Xz)(Q:s.cases.length<=maxLen)(R:jT w d s.cases)(_hl:ans.length<=maxLen)(S:ed w a ans)
  (G:ans.length≠0->0<=s.on/\s.on<ans.length):
  Calls prog 194 #[.agg #[.slice n s.asks.length p,.int .i64 s.on,.slice d s.cases.length q,.int .i64 s.els,.int .i64 s.fall,.bool s.fin,.bool s.bad,.string s.give],.slice a ans.length P] w fun e w'=>(∃r,e= .returned (.int .i64 r)/\uj s ans r)/\K_ w w':=by
 unfold maxLen at _hl Q;have T:K_ w (w.alloc (.cells #[.slice n s.asks.length p,.int .i64 s.on,.slice d s.cases.length q,.int .i64 s.els,.int .i64 s.fall,.bool s.fin,.bool s.bad,.string s.give] 233)):=ag _ _;cases f:((ans.length:Int) == 0)
 ·have v:ans.length≠0:=by simp at f;simpa using f
  obtain⟨H,U⟩:=G v;clear G;have I:=Kz v;clear v;obtain⟨t,J⟩:=ah (lg ans s.on);have h:=Kz J;clear J;obtain⟨x,y⟩:=Int.eq_ofNat_of_zero_le H;have V:=Kz y;go_enter func194,ntmps194
  rw[y] at H U⊢;clear y;go_wp2
  go_loopw [17] (fun A wr=>∃k:Nat,k<=s.cases.length/\A= .int .i64 k/\K_ (w.alloc (.cells #[.slice n s.asks.length p,.int .i64 x,.slice d s.cases.length q,.int .i64 s.els,.int .i64 s.fall,.bool s.fin,.bool s.bad,.string s.give] 233)) wr/\CaseTo s t k) (fun A _=>s.cases.length-(intOf A).toNat)
  case atStart=>exact⟨0,Ja _,rfl,K_.refl _,fun j B=>aP B⟩
  case round=>
   obtain⟨k,hk,rfl,i,K⟩:=hrel;have C:=Kz K;clear K;have W:=i.size;simp only[JG] at W;have l:K_ w wr:=K_.trans (ag _ _) i;obtain⟨a1,a2⟩:=i.rules;by_cases L:k<s.cases.length
   ·obtain⟨b,o,rfl,hb,m⟩:=R.kept l k L;obtain⟨X,o',rfl,a3,M⟩:=S.kept l x (by omega);obtain⟨c,D⟩:=ah (s.cases.getD k bD.zero);rw[<-D] at m;have E:=Kz D;clear D;have Y:=m 0 _ rfl;have c1:=m 1 _ rfl;have Z:=M 1 _ rfl;simp only[JM] at Y;have N:(ans.getD x Xz.zero).text=t:=by have F:=h.o;have a0:=V.o;unfold lg at F;rw[a0] at F;exact F.symm
    rw[N] at Z;clear m M N;have z0:w.heap.size<wr.heap.size:=by omega
    have z1:w.heap.size<wr.heap.size+1:=by omega
    have z2:X<wr.heap.size+1:=by omega
    cases O:(c.text.toList == t.toList)
    ·go_wp2
     go_region
     all_goals
      go_wp2
      go_roundw
      case rel=>
       refine⟨k+1,by omega,by go_num,by repeat (first | apply K_.drew | apply K_.alloc | exact i),fun j B=>?_⟩;by_cases e:j=k
       ·subst e;unfold qD;rw[<-E.o];exact qf O
       ·exact C.o j (by omega)
      case measure=>simp[intOf];omega
    ·go_wp2
     go_region
     all_goals
      go_wp2
      go_ret
      exact⟨⟨c.goto,rfl,Or.inr ⟨I.o,Or.inl ⟨k,L,by unfold qD;rw[<-E.o,<-h.o];exact nP.1 O,by rw[<-h.o];exact C.o,by unfold Bu;rw[<-E.o]⟩⟩⟩,by repeat (first | apply K_.drew | apply K_.alloc | exact l)⟩
   ·go_wp2
    go_ret
    exact⟨⟨s.els,rfl,Or.inr ⟨I.o,Or.inr ⟨by rw[<-h.o];exact fun j B=>C.o j (by omega),rfl⟩⟩⟩,l⟩
 ·go_enter func194,ntmps194
  go_wp2
  go_ret
  exact⟨⟨s.els,rfl,Or.inl ⟨by simp at f;simpa using f,rfl⟩⟩,T⟩
def bN.none :bN:=⟨1,false,0,⟨#[]⟩⟩
def ji(s:Xq)(i:Nat):KC:=(⟨#[98,101,108,111,119,32]⟩:KC)++s.asks.getD i ByteArray.empty
def uE(s:Xq)(ans:List Xz):Prop:=ans.length=s.asks.length/\¬∃i,i<ans.length/\ni (ans.getD i Xz.zero)
def Followed(s:Xq)(ans:List Xz)(g:bN):Prop:=
 (¬uE s ans/\g=bN.none)\/
 (uE s ans/\((∃i,i<ans.length/\gP (ans.getD i Xz.zero)/\lm ans gP i/\((s.fall= -1/\g= ⟨0,true,0,ji s i⟩)\/(s.fall≠ -1/\g= ⟨0,false,s.fall,⟨#[]⟩⟩)))\/
  (lm ans gP ans.length/\∃r,uj s ans r/\g= ⟨0,false,r,⟨#[]⟩⟩)))
theorem Followed.unique{s:Xq}{ans:List Xz}{g k:bN}(h:Followed s ans g)(n:Followed s ans k):g=k:=by
 rcases h with⟨a,rfl⟩ | ⟨a,⟨i,p,l,b,⟨c,rfl⟩ | ⟨c,rfl⟩⟩ | ⟨b,v,q,rfl⟩⟩ <;> rcases n with⟨d,rfl⟩ | ⟨d,⟨j,r,m,e,⟨f,rfl⟩ | ⟨f,rfl⟩⟩ | ⟨e,w,t,rfl⟩⟩
 all_goals first | rfl | exact Ki d a | exact Ki a d | exact Ki f c | exact Ki c f | exact Ki l (e i p) | exact Ki m (b j r) | skip
 ·rcases Ke i j with h|rfl|h
  ·exact Ki l (e i h)
  ·rfl
  ·exact Ki m (b j h)
 ·rw[q.unique t]
theorem Tryz.dC :(prog.info? 135).map (·.size)=some 4:=by kernel_rfl
theorem Ab(w:KH)(s:Xq)(f h a:KG)(k l t:Nat)(ans:List Xz)(L:s.Fits)(Y:Strs w f s.asks)(Z:jT w h s.cases)(v:ans.length<=maxLen)(M:∀c∈ans,c.text.size<=maxLen)(E:ed w a ans)
  (a0:s.asks.length≠0->0<=s.on/\s.on<s.asks.length) (a1:∀i,i<s.asks.length->(s.asks.getD i ByteArray.empty).size<=20):
  Calls prog 184 #[.agg #[.slice f s.asks.length k,.int .i64 s.on,.slice h s.cases.length l,.int .i64 s.els,.int .i64 s.fall,.bool s.fin,.bool s.bad,.string s.give],.slice a ans.length t] w fun e w'=>(∃g,e= .returned (.agg g.cells.toArray)/\Followed s ans g)/\K_ w w':=by
 have a2:=v;have a3:=L.asks;unfold maxLen at a2 a3;have x:K_ w ((w.alloc (.cells #[.slice f s.asks.length k,.int .i64 s.on,.slice h s.cases.length l,.int .i64 s.els,.int .i64 s.fall,.bool s.fin,.bool s.bad,.string s.give] 233)).alloc (.cells #[.int .i64 0,.bool false,.int .i64 0,.string ⟨#[]⟩] 135)):=(ag _ _).alloc _;cases F:((ans.length:Int) != (s.asks.length:Int))
 ·have N:ans.length=s.asks.length:=by simp at F;omega
  have y:=Kz N;clear N;go_enter func184,ntmps184
  go_wp2_with fail
  refine (xO _ a t ans v M (E.kept x)).mono ?_;rintro e w1 ⟨G,j⟩;have A:=x.trans j;have O:Row w1 (w.heap.size+1) 4:=Row.kept (by have:=Row.made (w.alloc (.cells #[.slice f s.asks.length k,.int .i64 s.on,.slice h s.cases.length l,.int .i64 s.els,.int .i64 s.fall,.bool s.fin,.bool s.bad,.string s.give] 233)) #[.int .i64 0,.bool false,.int .i64 0,.string ⟨#[]⟩] 135;simpa using this) j;have H:=Kz O;clear O;obtain⟨b6,b7⟩:=j.rules;have a4:=j.size;simp only[JG] at a4;rcases G.cases with⟨rfl,P⟩|⟨rfl,Q⟩
  ·have HY:=Kz P;clear P G x j;go_wp2
   have b:=Jc w1 (w.heap.size+1) 0 bN.none.cells (H.o.there (o:=0) (m:=4) (IZ _));exact Zx bN.none.cells _ results184 rfl b underlying135 rfl Tryz.dC rfl ⟨⟨_,rfl,Or.inl ⟨fun B=>B.2 HY.o,rfl⟩⟩,K_.setCells (g:=w.heap.size+1) (by omega) bN.none.cells 0 A⟩
  ·have HN:=Kz Q;clear Q G x j;have z0:w.heap.size<w1.heap.size:=by omega
   have z1:w.heap.size+1<w1.heap.size:=by omega
   go_wp2_with fail
   refine (w_ _ a t ans v M (E.kept A)).mono ?_;rintro e w2 ⟨⟨c0,rfl,hr⟩,n⟩;have d:=A.trans n;have R:=H.o.kept n;have C:=Kz R;obtain⟨c1,c2⟩:=n.rules;have c3:=n.size;have y0:w.heap.size<w2.heap.size:=by omega
   have y1:w.heap.size+1<w2.heap.size:=by omega
   clear R H n A;have I:Hid (uE s ans):=⟨y.o,HN.o⟩;rcases hr with⟨i,S,rfl,T,p⟩|⟨rfl,p⟩
   ·have U:=Kz T;have D:=Kz p;clear T p;cases V:(s.fall == -1)
    ·go_wp2
     have b:=Jc w2 (w.heap.size+1) 0 [.int .i64 0,.bool false,.int .i64 s.fall,.string ⟨#[]⟩] (C.o.there (o:=0) (m:=4) (IZ _));exact Zx [.int .i64 0,.bool false,.int .i64 s.fall,.string ⟨#[]⟩] _ results184 rfl b underlying135 rfl Tryz.dC rfl ⟨⟨⟨0,false,s.fall,⟨#[]⟩⟩,rfl,Or.inr ⟨I.o,Or.inl ⟨i,S,U.o,D.o,Or.inr ⟨by simpa using V,rfl⟩⟩⟩⟩,K_.setCells (g:=w.heap.size+1) (by omega) [.int .i64 0,.bool false,.int .i64 s.fall,.string ⟨#[]⟩] 0 d⟩
    ·obtain⟨ba,oa,rfl,c8,a8⟩:=Y.kept d i (by have:=y.o;omega);have a9:i<s.asks.length:=by have:=y.o;omega
     obtain⟨J,K⟩:=ah (s.asks.getD i ByteArray.empty);have b0:=a1 i a9;rw[<-K] at a8 b0;have HV:=Kz K;clear K;go_wp2
     have b:=Jc w2 (w.heap.size+1) 0 [.int .i64 0,.bool true,.int .i64 0,.string ((⟨#[98,101,108,111,119,32]⟩:KC)++J)] (C.o.there (o:=0) (m:=4) (IZ _));exact Zx [.int .i64 0,.bool true,.int .i64 0,.string ((⟨#[98,101,108,111,119,32]⟩:KC)++J)] _ results184 rfl b underlying135 rfl Tryz.dC rfl ⟨⟨⟨0,true,0,_⟩,rfl,Or.inr ⟨I.o,Or.inl ⟨i,S,U.o,D.o,Or.inl ⟨by simpa using V,by unfold ji;rw[<-HV.o]⟩⟩⟩⟩,K_.setCells (g:=w.heap.size+1) (by omega) [.int .i64 0,.bool true,.int .i64 0,.string ((⟨#[98,101,108,111,119,32]⟩:KC)++J)] 0 d⟩
   ·have D:=Kz p;clear p;go_wp2_with fail
    refine (Ba _ s f h a k l t ans L.cases (Z.kept d) v (E.kept d) (fun B=>by have h1:=y.o;have h2:=a0 (by omega);omega)).mono ?_;rintro e w3 ⟨⟨q,rfl,W⟩,r⟩;have K3:=d.trans r;have X:=C.o.kept r;have⟨b4,HQ⟩:=aD X W;obtain⟨d1,d2⟩:=r.rules;have d3:=r.size;clear X C r d W;go_wp2
    have b:=Jc w3 (w.heap.size+1) 0 [.int .i64 0,.bool false,.int .i64 q,.string ⟨#[]⟩] (b4.o.there (o:=0) (m:=4) (IZ _));exact Zx [.int .i64 0,.bool false,.int .i64 q,.string ⟨#[]⟩] _ results184 rfl b underlying135 rfl Tryz.dC rfl ⟨⟨⟨0,false,q,⟨#[]⟩⟩,rfl,Or.inr ⟨I.o,Or.inr ⟨D.o,q,HQ.o,rfl⟩⟩⟩,K_.setCells (g:=w.heap.size+1) (by omega) [.int .i64 0,.bool false,.int .i64 q,.string ⟨#[]⟩] 0 K3⟩
 ·go_enter func184,ntmps184
  go_wp2
  have b:=X_ (w.alloc (.cells #[.slice f s.asks.length k,.int .i64 s.on,.slice h s.cases.length l,.int .i64 s.els,.int .i64 s.fall,.bool s.fin,.bool s.bad,.string s.give] 233)) #[.int .i64 1,.bool false,.int .i64 0,.string ⟨#[]⟩] 135;rw[JG] at b;exact Zx bN.none.cells _ results184 rfl b underlying135 rfl Tryz.dC rfl ⟨⟨_,rfl,Or.inl ⟨fun B=>by simp at F;exact F (by have:=B.1;omega),rfl⟩⟩,(ag _ _).alloc _⟩
theorem Tryz.CS :(prog.info? 9).map (fun i=>(i.zero,i.size,i.bytes))=some (some (.string ByteArray.empty),1,16):=by kernel_rfl
structure Qz where
 name:KC
 cost:Int
 steps:List Xq
def Qz.zero :Qz:=⟨ByteArray.empty,0,[]⟩
def Qz.cells(d:Qz)(a:KG)(cap:Nat):List KI:=[.string d.name,.int .i64 d.cost,.slice a d.steps.length cap]
def yw(w:KH)(cs:List KI)(d:Qz):Prop:=∃a cap,cs=d.cells a cap/\Steps w a d.steps
theorem yw.kept{w w':KH}{cs:List KI}{d:Qz}(h:yw w cs d)(k:K_ w w'):yw w' cs d:=by
 obtain⟨a,c,e,f⟩:=h;exact⟨a,c,e,f.kept k⟩
def bY(w:KH)(a:KG)(l:List Qz):Prop:=
 ∀i,i<l.length->∃b o cs,a=some ⟨b,o,none⟩/\b<w.heap.size/\w.rangeAt b (o+i*3) cs/\yw w cs (l.getD i Qz.zero)
theorem bY.kept{w w':KH}{a:KG}{l:List Qz}(h:bY w a l)(k:K_ w w'):bY w' a l:=by
 intro i c;obtain⟨d,o,e,f,b,j,m⟩:=h i c;exact⟨d,o,e,f,I_ b k.size,k.range b j,m.kept k⟩
structure Qz.Fits (d:Qz):Prop where
 name:d.name.size<=maxLen
 cost:In64 d.cost
 steps:d.steps.length<=maxLen
 each:∀s∈d.steps,s.Fits
theorem size_setCells(g:Nat):∀(vs:List KI) (o:Nat) (w:KH),(w.setCells g o vs).heap.size=w.heap.size
 | [],_,_=>rfl
 | v :: r,o,w=>by rw[World.setCells,size_setCells g r (o+1),size_setCell]
theorem IE(a:Array KI)(W:KH):(Instr.typeAssert (.iface 233 (.agg a)) 215 233 true).run prog W= .ok (.tuple #[.agg a,.bool true]) W:=by kernel_rfl
theorem Bb(w:KH)(s:Xq)(B:s.fin=false)(d f a:KG)(j k l:Nat)(ans:List Xz)(C:s.Fits)(D:Strs w d s.asks)(E:jT w f s.cases)(F:ans.length<=maxLen)(G:∀c∈ans,c.text.size<=maxLen)(H:ed w a ans)
  (p:s.asks.length≠0->0<=s.on/\s.on<s.asks.length) (q:∀i,i<s.asks.length->(s.asks.getD i ByteArray.empty).size<=20):
  Calls prog 167 #[.iface 233 (.agg #[.slice d s.asks.length j,.int .i64 s.on,.slice f s.cases.length k,.int .i64 s.els,.int .i64 s.fall,.bool false,.bool s.bad,.string s.give]),.slice a ans.length l] w fun e w'=>(∃g,e= .returned (.agg g.cells.toArray)/\Followed s ans g)/\K_ w w':=by
 have r:∀W,K_ w W->Calls prog 184 #[.agg #[.slice d s.asks.length j,.int .i64 s.on,.slice f s.cases.length k,.int .i64 s.els,.int .i64 s.fall,.bool false,.bool s.bad,.string s.give],.slice a ans.length l] W fun e w'=>(∃g,e= .returned (.agg g.cells.toArray)/\Followed s ans g)/\K_ W w':=fun W n=>by
  have h:=Ab W s d f a j k l ans C (D.kept n) (E.kept n) F G (H.kept n) p q;rw[B] at h;exact h
 have I:=Kz r;clear r p q;have O:=IE;go_enter func167,ntmps167
 go_wp2_with fail
 refine (aW I _ (by repeat (first | apply K_.alloc | exact K_.refl _))).mono ?_;rintro e w1 ⟨⟨g,rfl,v⟩,b⟩;have y:Row w1 w.heap.size 4:=Row.kept (Row.alloc (by have:=Row.made w #[.int .i64 0,.bool false,.int .i64 0,.string ⟨#[]⟩] 135;simpa using this) _) b;have J:K_ w w1:=K_.trans (by repeat (first | apply K_.alloc | exact K_.refl _)) b;obtain⟨c,o,t,x⟩:=g;have⟨K,L⟩:=aD v y;clear v y;obtain⟨P,Q⟩:=b.rules;have M:=b.size;simp only[JG] at M;clear b;have A:(bN.mk c o t x).cells.toArray= #[.int .i64 c,.bool o,.int .i64 t,.string x]:=rfl;rw[A];clear A;go_wp2
 have N:=Jc w1 w.heap.size 0 (bN.mk c o t x).cells (L.o.there (o:=0) (m:=4) (IZ _));exact Zx (bN.mk c o t x).cells _ results167 rfl N underlying135 rfl Tryz.dC rfl ⟨⟨_,rfl,K.o⟩,K_.setCells (g:=w.heap.size) (by omega) (bN.mk c o t x).cells 0 J⟩
theorem dW :∀(x y z:List UInt8),Op.bytesLess x y=true->Op.bytesLess y z=true->Op.bytesLess x z=true
 | [],[],_,h,_=>by simp[Op.bytesLess] at h
 | [],_ :: _,[],_,h=>by simp[Op.bytesLess] at h
 | [],_ :: _,_ :: _,_,_=>by simp[Op.bytesLess]
 | _ :: _,[],_,h,_=>by simp[Op.bytesLess] at h
 | _ :: _,_ :: _,[],_,h=>by simp[Op.bytesLess] at h
 | a :: x,b :: y,c :: z,e,d=>by
  have f:=dW x y z;simp only[Op.bytesLess,Bool.or_eq_true,Bool.and_eq_true,Ko,beq_iff_eq] at e d⊢;rcases e with e|⟨rfl,e⟩
  ·rcases d with d|⟨rfl,d⟩
   ·exact .inl (UInt8.lt_trans e d)
   ·exact .inl e
  ·rcases d with d|⟨rfl,d⟩
   ·exact .inl d
   ·exact .inr ⟨rfl,f e d⟩
theorem dB :∀x:List UInt8,Op.bytesLess x x=false
 | []=>rfl
 | a :: x=>by
  have b:=dB x;simp[Op.bytesLess,b]
theorem oJ :∀x y:List UInt8,Op.bytesLess x y=false->x≠y->Op.bytesLess y x=true
 | [],[],_,h=>Ki rfl h
 | [],_ :: _,h,_=>by simp[Op.bytesLess] at h
 | _ :: _,[],_,_=>rfl
 | a :: x,b :: y,h,hne=>by
  have f:=oJ x y;simp only[Op.bytesLess,Bool.or_eq_false_iff,decide_eq_false_iff_not,Bool.and_eq_false_iff,beq_eq_false_iff_ne] at h;simp only[Op.bytesLess,Bool.or_eq_true,Bool.and_eq_true,Ko,beq_iff_eq];by_cases e:a=b
  ·subst e
   right
   refine⟨rfl,f ?_ (fun e=>hne (by rw[e]))⟩;rcases h.2 with c | c
   ·exact Ki rfl c
   ·exact c
  ·left
   have d:=h.1;rw[UInt8.not_lt] at d;exact UInt8.lt_of_le_of_ne d (fun i=>e i.symm)
def nameAt(l:List Qz)(i:Nat):List UInt8:=(l.getD i Qz.zero).name.toList
def fG(l:List Qz):Prop:=∀i j,i<j->j<l.length->Op.bytesLess (nameAt l i) (nameAt l j)=true
theorem Ak{l:List Qz}(h:∀i,i+1<l.length->Op.bytesLess (nameAt l i) (nameAt l (i+1))=true):fG l:=by
 intro i j b a
 induction j with
 | zero=>omega
 | succ j ih=>
  by_cases e:i=j
  ·subst e;exact h i a
  ·exact dW _ _ _ (ih (by omega) (by omega)) (h j a)
structure Place (l:List Qz) (key:List UInt8) (p:Nat):Prop where
 le:p<=l.length
 before:∀j,j<p->Op.bytesLess (nameAt l j) key=true
 behind:∀j,p<=j->j<l.length->Op.bytesLess (nameAt l j) key=false
theorem Place.only{l:List Qz}{a:List UInt8}{p j:Nat}(c:fG l)(h:Place l a p)(d:j<l.length)(e:nameAt l j=a):j=p:=by
 by_cases f:j<p
 ·have:=h.before j f;rw[e,dB] at this;cases this
 ·by_cases i:p<j
  ·have b:=c p j i d;rw[e] at b;have:=h.behind p (IZ _) (by omega);rw[b] at this;cases this
  ·omega
theorem Tryz.lM :(prog.info? 79).map (fun i=>(i.zero,i.size,i.bytes))=some (some (.agg #[.string ⟨#[]⟩,.int .i64 0,.slice none 0 0]),3,48):=by kernel_rfl
theorem Tryz.kQ :(prog.info? 25).map (·.size)=some 1:=by kernel_rfl
