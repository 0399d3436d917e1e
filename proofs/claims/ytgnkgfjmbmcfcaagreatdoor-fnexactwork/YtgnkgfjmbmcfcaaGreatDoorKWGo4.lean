import Derived.Test.YtgnkgfjmbmcfcaaGreatDoorKVBfs
import Derived.Test.YtgnkgfjmbmcfcaaGreatDoorProg
import Derived.WalkSpells
import Derived.WalkLawsBesides
set_option maxRecDepth 100000
set_option maxHeartbeats 25600000
namespace Go.Proofs.YtgnkgfjmbmcfcaaGreatDoor
open Go.RowKit Go.Proofs.Tryz
structure bW where
 code:Int
 over:Bool
 at':Int
 text:Qw
def bW.cells(g:bW):List QA:=[.int .i64 g.code,.bool g.over,.int .i64 g.at',.string g.text]
theorem yQ(w:Qy)(c:Xz)(a:c.text.size<=maxLen):
  Calls prog 230 #[.agg #[.bool c.fail,.string c.text]] w fun e w'=>Says e (200<c.text.size)/\K_ w w':=by
 unfold maxLen at a;go_enter func230,ntmps230
 go_wp2
 go_ret
 exact⟨(Says.dec _).congr ⟨fun h=>by omega,fun h=>by omega⟩,ak _ _⟩
theorem F_(w:Qy)(c:Xz):
  Calls prog 196 #[.agg #[.bool c.fail,.string c.text]] w fun e w'=>Says e (c.fail=true)/\K_ w w':=by
 go_enter func196,ntmps196
 go_wp2
 go_ret
 exact⟨⟨c.fail,rfl,Iff.rfl⟩,ak _ _⟩
def BN(l:List Xz)(p:Xz->Prop)(r:Int):Prop:=
 (∃i,i<l.length/\r= (i:Int)/\p (l.getD i Xz.zero)/\∀j,j<i->¬p (l.getD j Xz.zero))\/(r= -1/\∀j,j<l.length->¬p (l.getD j Xz.zero))
def mO(l:List Xz)(p:Xz->Prop)(k:Nat):Prop:=∀j,j<k->¬p (l.getD j Xz.zero)
def p_(c:Xz):Prop:=200<c.text.size
def iI(c:Xz):Prop:=c.fail=true
theorem Jc(w:Qy)(a:Qx)(cap:Nat)(l:List Xz)(B:l.length<=maxLen)(C:∀c∈l,c.text.size<=maxLen)(D:eP w a l):
  Calls prog 195 #[.slice a l.length cap,.func (.func 230) #[] #[]] w fun e w'=>(∃r,e= .returned (.int .i64 r)/\BN l p_ r)/\K_ w w':=by
 unfold maxLen at B;go_enter func195,ntmps195
 go_wp2
 go_loopw [8] (fun i wr=>∃k:Nat,k<=l.length/\i= .int .i64 k/\K_ w wr/\mO l p_ k) (fun i _=>l.length-(intOf i).toNat)
 case atStart=>exact⟨0,OW _,rfl,K_.refl _,fun j g=>aB g⟩
 case round=>
  obtain⟨k,H,rfl,d,q⟩:=hrel;have h:=Kz q;clear q;by_cases m:k<l.length
  ·obtain⟨b,o,rfl,I,f⟩:=D.kept d k m;have s:(l.getD k Xz.zero).text.size<=maxLen:=C _ (by simp[List.getD,m]);obtain⟨c,n⟩:=ag (l.getD k Xz.zero);rw[<-n] at f s;have t:=Kz n;clear n;have v:=f 0 _ rfl;have E:=f 1 _ rfl;simp only[PR] at v;clear f;go_wp2_with fail
   refine (yQ _ c s).mono ?_;rintro e J ⟨p,x⟩;have y:=d.trans x;clear v E d x;rcases p.cases with⟨rfl,z⟩|⟨rfl,A⟩
   ·have F:=Kz z;clear z p;go_wp2
    go_ret
    exact⟨⟨k,rfl,Or.inl ⟨k,m,rfl,by rw[<-t.o];exact F.o,h.o⟩⟩,y⟩
   ·have G:=Kz A;clear A p;go_wp2
    go_roundw
    case rel=>
     refine⟨k+1,by omega,by go_num,y,fun j g=>?_⟩;by_cases e:j=k
     ·subst e;rw[<-t.o];exact G.o
     ·exact h.o j (by omega)
    case measure=>simp[intOf];omega
  ·go_wp2
   go_ret
   exact⟨⟨-1,rfl,Or.inr ⟨rfl,fun j g=>h.o j (by omega)⟩⟩,d⟩
theorem Ak(w:Qy)(a:Qx)(cap:Nat)(l:List Xz)(A:l.length<=maxLen)(B:∀c∈l,c.text.size<=maxLen)(C:eP w a l):
  Calls prog 195 #[.slice a l.length cap,.func (.func 196) #[] #[]] w fun e w'=>(∃r,e= .returned (.int .i64 r)/\BN l iI r)/\K_ w w':=by
 unfold maxLen at A;go_enter func195,ntmps195
 go_wp2
 go_loopw [8] (fun i wr=>∃k:Nat,k<=l.length/\i= .int .i64 k/\K_ w wr/\mO l iI k) (fun i _=>l.length-(intOf i).toNat)
 case atStart=>exact⟨0,OW _,rfl,K_.refl _,fun j g=>aB g⟩
 case round=>
  obtain⟨k,H,rfl,d,q⟩:=hrel;have h:=Kz q;clear q;by_cases m:k<l.length
  ·obtain⟨b,o,rfl,I,f⟩:=C.kept d k m;have D:(l.getD k Xz.zero).text.size<=maxLen:=B _ (by simp[List.getD,m]);obtain⟨c,n⟩:=ag (l.getD k Xz.zero);rw[<-n] at f D;have s:=Kz n;clear n;have t:=f 0 _ rfl;have E:=f 1 _ rfl;simp only[PR] at t;clear f;go_wp2_with fail
   refine (F_ _ c).mono ?_;rintro e J ⟨p,v⟩;have x:=d.trans v;clear t E d v;rcases p.cases with⟨rfl,y⟩|⟨rfl,z⟩
   ·have F:=Kz y;clear y p;go_wp2
    go_ret
    exact⟨⟨k,rfl,Or.inl ⟨k,m,rfl,by rw[<-s.o];exact F.o,h.o⟩⟩,x⟩
   ·have G:=Kz z;clear z p;go_wp2
    go_roundw
    case rel=>
     refine⟨k+1,by omega,by go_num,x,fun j g=>?_⟩;by_cases e:j=k
     ·subst e;rw[<-s.o];exact G.o
     ·exact h.o j (by omega)
    case measure=>simp[intOf];omega
  ·go_wp2
   go_ret
   exact⟨⟨-1,rfl,Or.inr ⟨rfl,fun j g=>h.o j (by omega)⟩⟩,d⟩
theorem Co(w:Qy)(a:Qx)(cap:Nat)(l:List Xz)(k:l.length<=maxLen)(m:∀c∈l,c.text.size<=maxLen)(n:eP w a l):
  Calls prog 229 #[.slice a l.length cap,.func (.func 230) #[] #[]] w fun e w'=>Says e (∃i,i<l.length/\p_ (l.getD i Xz.zero))/\K_ w w':=by
 go_enter func229,ntmps229
 go_wp2_with fail
 refine (Jc _ a cap l k m n).mono ?_;rintro e s ⟨⟨r,rfl,f⟩,g⟩;have h:=Kz f;clear f;by_cases j:0<=r
 ·have p:decide (0<=r)=true:=by simpa using j
  go_wp2
  go_ret
  exact⟨Says.yes (by rcases h.o with⟨i,b,_,d,_⟩ | ⟨rfl,_⟩;exact⟨i,b,d⟩;omega),g⟩
 ·have p:decide (0<=r)=false:=by simpa using j
  go_wp2
  go_ret
  exact⟨Says.no (by rcases h.o with⟨i,b,rfl,d,_⟩ | ⟨rfl,q⟩;omega;exact fun ⟨i,b,d⟩=>q i b d),g⟩
def tX(s:Xq)(t:Qw)(i:Nat):Prop:=(s.cases.getD i aT.zero).text=t
def CaseTo(s:Xq)(t:Qw)(k:Nat):Prop:=∀j,j<k->¬tX s t j
def FR(s:Xq)(i:Nat):Int:=(s.cases.getD i aT.zero).goto
def mM(ans:List Xz)(i:Int):Qw:=(ans.getD i.toNat Xz.zero).text
def yO(s:Xq)(ans:List Xz)(r:Int):Prop:=
 (ans.length=0/\r=s.els)\/
 (ans.length≠0/\((∃i,i<s.cases.length/\tX s (mM ans s.on) i/\CaseTo s (mM ans s.on) i/\r=FR s i)\/(CaseTo s (mM ans s.on) s.cases.length/\r=s.els)))
theorem yO.unique{s:Xq}{ans:List Xz}{r c:Int}(h:yO s ans r)(f:yO s ans c):r=c:=by
 rcases h with⟨g,rfl⟩ | ⟨g,⟨i,k,d,a,rfl⟩ | ⟨a,rfl⟩⟩ <;> rcases f with⟨l,rfl⟩ | ⟨l,⟨j,m,e,b,rfl⟩ | ⟨b,rfl⟩⟩
 all_goals first | rfl | (exfalso;omega) | skip
 ·rcases Qf i j with h|rfl|h
  ·exact Qi d (b i h)
  ·rfl
  ·exact Qi e (a j h)
 ·exact Qi d (b i k)
 ·exact Qi e (a j m)
theorem Fh(w:Qy)(s:Xq)(m d a:Qx)(ca cc cap:Nat)(ans:List Xz)(L:s.cases.length<=maxLen)(M:dw w d s.cases)(_hl:ans.length<=maxLen)(N:eP w a ans)
  (C:ans.length≠0->0<=s.on/\s.on<ans.length):
  Calls prog 231 #[.agg #[.slice m s.asks.length ca,.int .i64 s.on,.slice d s.cases.length cc,.int .i64 s.els,.int .i64 s.fall,.bool s.fin,.bool s.bad,.string s.give],.slice a ans.length cap] w fun e w'=>(∃r,e= .returned (.int .i64 r)/\yO s ans r)/\K_ w w':=by
 unfold maxLen at _hl L;have O:K_ w (w.alloc (.cells #[.slice m s.asks.length ca,.int .i64 s.on,.slice d s.cases.length cc,.int .i64 s.els,.int .i64 s.fall,.bool s.fin,.bool s.bad,.string s.give] 270)):=ak _ _;cases f:((ans.length:Int) == 0)
 ·have p:ans.length≠0:=by simp at f;simpa using f
  obtain⟨D,P⟩:=C p;clear C;have E:=Kz p;clear p;obtain⟨t,F⟩:=ag (mM ans s.on);have g:=Kz F;clear F;obtain⟨n,q⟩:=Int.eq_ofNat_of_zero_le D;have Q:=Kz q;go_enter func231,ntmps231
  rw[q] at D P⊢;clear q;go_wp2
  go_loopw [17] (fun v wr=>∃k:Nat,k<=s.cases.length/\v= .int .i64 k/\K_ (w.alloc (.cells #[.slice m s.asks.length ca,.int .i64 n,.slice d s.cases.length cc,.int .i64 s.els,.int .i64 s.fall,.bool s.fin,.bool s.bad,.string s.give] 270)) wr/\CaseTo s t k) (fun v _=>s.cases.length-(intOf v).toNat)
  case atStart=>exact⟨0,OW _,rfl,K_.refl _,fun j x=>aB x⟩
  case round=>
   obtain⟨k,W,rfl,h,G⟩:=hrel;have y:=Kz G;clear G;have R:=h.size;simp only[PL] at R;have i:K_ w wr:=K_.trans (ak _ _) h;obtain⟨X,Y⟩:=h.rules;by_cases H:k<s.cases.length
   ·obtain⟨b,o,rfl,Z,l⟩:=M.kept i k H;obtain⟨S,o',rfl,a0,I⟩:=N.kept i n (by omega);obtain⟨c,z⟩:=ag (s.cases.getD k aT.zero);rw[<-z] at l;have A:=Kz z;clear z;have T:=l 0 _ rfl;have c1:=l 1 _ rfl;have U:=I 1 _ rfl;simp only[PR] at T;have J:(ans.getD n Xz.zero).text=t:=by have B:=g.o;have V:=Q.o;unfold mM at B;rw[V] at B;exact B.symm
    rw[J] at U;clear l I J;have z0:w.heap.size<wr.heap.size:=by omega
    have z1:w.heap.size<wr.heap.size+1:=by omega
    have z2:S<wr.heap.size+1:=by omega
    cases K:(c.text.toList == t.toList)
    ·go_wp2
     go_region
     all_goals
      go_wp2
      go_roundw
      case rel=>
       refine⟨k+1,by omega,by go_num,by repeat (first | apply K_.drew | apply K_.alloc | exact h),fun j x=>?_⟩;by_cases e:j=k
       ·subst e;unfold tX;rw[<-A.o];exact sJ K
       ·exact y.o j (by omega)
      case measure=>simp[intOf];omega
    ·go_wp2
     go_region
     all_goals
      go_wp2
      go_ret
      exact⟨⟨c.goto,rfl,Or.inr ⟨E.o,Or.inl ⟨k,H,by unfold tX;rw[<-A.o,<-g.o];exact pM.1 K,by rw[<-g.o];exact y.o,by unfold FR;rw[<-A.o]⟩⟩⟩,by repeat (first | apply K_.drew | apply K_.alloc | exact i)⟩
   ·go_wp2
    go_ret
    exact⟨⟨s.els,rfl,Or.inr ⟨E.o,Or.inr ⟨by rw[<-g.o];exact fun j x=>y.o j (by omega),rfl⟩⟩⟩,i⟩
 ·go_enter func231,ntmps231
  go_wp2
  go_ret
  exact⟨⟨s.els,rfl,Or.inl ⟨by simp at f;simpa using f,rfl⟩⟩,O⟩
def bW.none :bW:=⟨1,false,0,⟨#[]⟩⟩
def kK(s:Xq)(i:Nat):Qw:=(⟨#[98,101,108,111,119,32]⟩:Qw)++s.asks.getD i ByteArray.empty
def yB(s:Xq)(ans:List Xz):Prop:=ans.length=s.asks.length/\¬∃i,i<ans.length/\p_ (ans.getD i Xz.zero)
def Followed(s:Xq)(ans:List Xz)(g:bW):Prop:=
 (¬yB s ans/\g=bW.none)\/
 (yB s ans/\((∃i,i<ans.length/\iI (ans.getD i Xz.zero)/\mO ans iI i/\((s.fall= -1/\g= ⟨0,true,0,kK s i⟩)\/(s.fall≠ -1/\g= ⟨0,false,s.fall,⟨#[]⟩⟩)))\/
  (mO ans iI ans.length/\∃r,yO s ans r/\g= ⟨0,false,r,⟨#[]⟩⟩)))
theorem Followed.unique{s:Xq}{ans:List Xz}{g k:bW}(h:Followed s ans g)(n:Followed s ans k):g=k:=by
 rcases h with⟨a,rfl⟩ | ⟨a,⟨i,p,l,b,⟨c,rfl⟩ | ⟨c,rfl⟩⟩ | ⟨b,v,q,rfl⟩⟩ <;> rcases n with⟨d,rfl⟩ | ⟨d,⟨j,r,m,e,⟨f,rfl⟩ | ⟨f,rfl⟩⟩ | ⟨e,w,t,rfl⟩⟩
 all_goals first | rfl | exact Qi d a | exact Qi a d | exact Qi f c | exact Qi c f | exact Qi l (e i p) | exact Qi m (b j r) | skip
 ·rcases Qf i j with h|rfl|h
  ·exact Qi l (e i h)
  ·rfl
  ·exact Qi m (b j h)
 ·rw[q.unique t]
theorem Tryz.dL :(prog.info? 244).map (·.size)=some 4:=by kernel_rfl
theorem Ef(w:Qy)(s:Xq)(f h a:Qx)(ca cc cap:Nat)(ans:List Xz)(J:s.Fits)(W:Strs w f s.asks)(X:dw w h s.cases)(p:ans.length<=maxLen)(K:∀c∈ans,c.text.size<=maxLen)(C:eP w a ans)
  (Y:s.asks.length≠0->0<=s.on/\s.on<s.asks.length) (Z:∀i,i<s.asks.length->(s.asks.getD i ByteArray.empty).size<=20):
  Calls prog 211 #[.agg #[.slice f s.asks.length ca,.int .i64 s.on,.slice h s.cases.length cc,.int .i64 s.els,.int .i64 s.fall,.bool s.fin,.bool s.bad,.string s.give],.slice a ans.length cap] w fun e w'=>(∃g,e= .returned (.agg g.cells.toArray)/\Followed s ans g)/\K_ w w':=by
 have a0:=p;have a1:=J.asks;unfold maxLen at a0 a1;have r:K_ w ((w.alloc (.cells #[.slice f s.asks.length ca,.int .i64 s.on,.slice h s.cases.length cc,.int .i64 s.els,.int .i64 s.fall,.bool s.fin,.bool s.bad,.string s.give] 270)).alloc (.cells #[.int .i64 0,.bool false,.int .i64 0,.string ⟨#[]⟩] 244)):=(ak _ _).alloc _;cases D:((ans.length:Int) != (s.asks.length:Int))
 ·have L:ans.length=s.asks.length:=by simp at D;omega
  have t:=Kz L;clear L;go_enter func211,ntmps211
  go_wp2_with fail
  refine (Co _ a cap ans p K (C.kept r)).mono ?_;rintro e v ⟨E,j⟩;have x:=r.trans j;have M:Row v (w.heap.size+1) 4:=Row.kept (by have:=Row.made (w.alloc (.cells #[.slice f s.asks.length ca,.int .i64 s.on,.slice h s.cases.length cc,.int .i64 s.els,.int .i64 s.fall,.bool s.fin,.bool s.bad,.string s.give] 270)) #[.int .i64 0,.bool false,.int .i64 0,.string ⟨#[]⟩] 244;simpa using this) j;have F:=Kz M;clear M;obtain⟨a7,a8⟩:=j.rules;have a2:=j.size;simp only[PL] at a2;rcases E.cases with⟨rfl,N⟩|⟨rfl,O⟩
  ·have HY:=Kz N;clear N E r j;go_wp2
   have b:=OY v (w.heap.size+1) 0 bW.none.cells (F.o.there (o:=0) (m:=4) (OU _));exact Zx bW.none.cells _ results211 rfl b underlying244 rfl Tryz.dL rfl ⟨⟨_,rfl,Or.inl ⟨fun y=>y.2 HY.o,rfl⟩⟩,K_.setCells (g:=w.heap.size+1) (by omega) bW.none.cells 0 x⟩
  ·have HN:=Kz O;clear O E r j;have z0:w.heap.size<v.heap.size:=by omega
   have z1:w.heap.size+1<v.heap.size:=by omega
   go_wp2_with fail
   refine (Ak _ a cap ans p K (C.kept x)).mono ?_;rintro e z ⟨⟨a9,rfl,hr⟩,k⟩;have d:=x.trans k;have P:=F.o.kept k;have A:=Kz P;obtain⟨b0,b1⟩:=k.rules;have b2:=k.size;have y0:w.heap.size<z.heap.size:=by omega
   have y1:w.heap.size+1<z.heap.size:=by omega
   clear P F k x;have G:Hid (yB s ans):=⟨t.o,HN.o⟩;rcases hr with⟨i,Q,rfl,R,l⟩|⟨rfl,l⟩
   ·have S:=Kz R;have B:=Kz l;clear R l;cases T:(s.fall == -1)
    ·go_wp2
     have b:=OY z (w.heap.size+1) 0 [.int .i64 0,.bool false,.int .i64 s.fall,.string ⟨#[]⟩] (A.o.there (o:=0) (m:=4) (OU _));exact Zx [.int .i64 0,.bool false,.int .i64 s.fall,.string ⟨#[]⟩] _ results211 rfl b underlying244 rfl Tryz.dL rfl ⟨⟨⟨0,false,s.fall,⟨#[]⟩⟩,rfl,Or.inr ⟨G.o,Or.inl ⟨i,Q,S.o,B.o,Or.inr ⟨by simpa using T,rfl⟩⟩⟩⟩,K_.setCells (g:=w.heap.size+1) (by omega) [.int .i64 0,.bool false,.int .i64 s.fall,.string ⟨#[]⟩] 0 d⟩
    ·obtain⟨ba,oa,rfl,b3,a3⟩:=W.kept d i (by have:=t.o;omega);have a4:i<s.asks.length:=by have:=t.o;omega
     obtain⟨H,I⟩:=ag (s.asks.getD i ByteArray.empty);have a5:=Z i a4;rw[<-I] at a3 a5;have HV:=Kz I;clear I;go_wp2
     have b:=OY z (w.heap.size+1) 0 [.int .i64 0,.bool true,.int .i64 0,.string ((⟨#[98,101,108,111,119,32]⟩:Qw)++H)] (A.o.there (o:=0) (m:=4) (OU _));exact Zx [.int .i64 0,.bool true,.int .i64 0,.string ((⟨#[98,101,108,111,119,32]⟩:Qw)++H)] _ results211 rfl b underlying244 rfl Tryz.dL rfl ⟨⟨⟨0,true,0,_⟩,rfl,Or.inr ⟨G.o,Or.inl ⟨i,Q,S.o,B.o,Or.inl ⟨by simpa using T,by unfold kK;rw[<-HV.o]⟩⟩⟩⟩,K_.setCells (g:=w.heap.size+1) (by omega) [.int .i64 0,.bool true,.int .i64 0,.string ((⟨#[98,101,108,111,119,32]⟩:Qw)++H)] 0 d⟩
   ·have B:=Kz l;clear l;go_wp2_with fail
    refine (Fh _ s f h a ca cc cap ans J.cases (X.kept d) p (C.kept d) (fun y=>by have h1:=t.o;have h2:=Y (by omega);omega)).mono ?_;rintro e w3 ⟨⟨q,rfl,U⟩,n⟩;have K3:=d.trans n;have V:=A.o.kept n;have⟨a6,HQ⟩:=aD V U;obtain⟨b4,b5⟩:=n.rules;have b6:=n.size;clear V A n d U;go_wp2
    have b:=OY w3 (w.heap.size+1) 0 [.int .i64 0,.bool false,.int .i64 q,.string ⟨#[]⟩] (a6.o.there (o:=0) (m:=4) (OU _));exact Zx [.int .i64 0,.bool false,.int .i64 q,.string ⟨#[]⟩] _ results211 rfl b underlying244 rfl Tryz.dL rfl ⟨⟨⟨0,false,q,⟨#[]⟩⟩,rfl,Or.inr ⟨G.o,Or.inr ⟨B.o,q,HQ.o,rfl⟩⟩⟩,K_.setCells (g:=w.heap.size+1) (by omega) [.int .i64 0,.bool false,.int .i64 q,.string ⟨#[]⟩] 0 K3⟩
 ·go_enter func211,ntmps211
  go_wp2
  have b:=X_ (w.alloc (.cells #[.slice f s.asks.length ca,.int .i64 s.on,.slice h s.cases.length cc,.int .i64 s.els,.int .i64 s.fall,.bool s.fin,.bool s.bad,.string s.give] 270)) #[.int .i64 1,.bool false,.int .i64 0,.string ⟨#[]⟩] 244;rw[PL] at b;exact Zx bW.none.cells _ results211 rfl b underlying244 rfl Tryz.dL rfl ⟨⟨_,rfl,Or.inl ⟨fun y=>by simp at D;exact D (by have:=y.1;omega),rfl⟩⟩,(ak _ _).alloc _⟩
def kZ(l:List Qw):Nat:=l.length+ (l.map (·.size)).sum
theorem qP(w:Qy)(a:Qx)(cap:Nat)(l:List Qw)(left:Int)(f:l.length<=maxLen)(g:∀s∈l,s.size<=maxLen)
  (h:Strs w a l) (n:0<=left) (p:left<=1048576):
  Calls prog 5 #[.slice a l.length cap,.int .i64 left] w fun e w'=>e= .returned (.int .i64 (szL (kZ l) left))/\w'=w:=by
 unfold maxLen at f;go_enter func5,ntmps5
 go_wp2
 ·go_ret
  exact⟨aU (cB (by unfold kZ;omega)).symm,rfl⟩
 ·go_loop [1,5] (fun x i=>∃k:Nat,k<=l.length/\i= .int .i64 k/\x= .int .i64 (left-l.length-sumTo (·.size) l k)/\0<=left-l.length-sumTo (·.size) l k) (fun _ i=>l.length-(intOf i).toNat)
  case atStart=>exact⟨0,OW _,rfl,by simp[eD],by simp[eD];omega⟩
  case round=>
   obtain⟨k,q,rfl,rfl,j⟩:=hrel;by_cases c:k<l.length
   ·obtain⟨b,o,rfl,r,t⟩:=h k c;have m:(l.getD k ByteArray.empty).size<=maxLen:=g _ (by simp[List.getD,c]);have d:Hid (sumTo (·.size) l (k+1)=sumTo (·.size) l k+ (l.getD k ByteArray.empty).size):=iK _ l _ k c;have v:=sumTo_le (·.size) l (k+1);generalize l.getD k ByteArray.empty=s at *;unfold maxLen at m;go_wp2
    ·go_ret
     exact⟨aU (cB (by unfold kZ;have:=d.o;omega)).symm,rfl⟩
    ·go_round
     case rel=>exact⟨k+1,by omega,by go_num,by rw[d.o];go_num,by rw[d.o];omega⟩
     case measure=>simp[intOf];omega
   ·go_wp2
    go_ret
    have:k=l.length:=by omega
    subst this;rw[jD] at j⊢;exact⟨aU (by rw[dZ (by unfold kZ;omega)];unfold kZ;omega),rfl⟩
theorem mJ(w:Qy)(a d:Qx)(cap g:Nat)(l:List Qw)(h:l.length<=maxLen)
  (j:Strs w a l) (m:Strs w d l):
  Calls prog 12 #[.slice a l.length cap,.slice d l.length g] w fun e w'=>e= .returned (.bool true)/\K_ w w':=by
 unfold maxLen at h;go_enter func12,ntmps12
 go_wp2
 go_loopw [5] (fun i wr=>∃k:Nat,k<=l.length/\i= .int .i64 k/\K_ w wr) (fun i _=>l.length-(intOf i).toNat)
 case atStart=>exact⟨0,OW _,rfl,K_.refl _⟩
 case round=>
  obtain⟨k,n,rfl,c⟩:=hrel;by_cases f:k<l.length
  ·obtain⟨b,o,rfl,p,q⟩:=j.kept c k f;obtain⟨r,s,rfl,t,v⟩:=m.kept c k f;generalize l.getD k ByteArray.empty=x at *;go_wp2
   go_region
   all_goals
    go_wp2
    go_roundw
    case rel=>exact⟨k+1,by omega,by go_num,Below.drew c⟩
    case measure=>simp[intOf];omega
  ·go_wp2
   go_ret
   exact⟨rfl,c⟩
theorem Tryz.wP :(prog.info? 9).map (fun i=>(i.zero,i.size,i.bytes))=some (some (.string ByteArray.empty),1,16):=by kernel_rfl
theorem jN(w:Qy)(a:Qx)(cap:Nat)(l:List Qw)(A:l.length<=1048576)
  (r:Strs w a l):
  Calls prog 8 #[.slice a l.length cap] w fun e w'=>∃b,e= .returned (.slice (some ⟨b,0,none⟩) l.length l.length)/\Strs w' (some ⟨b,0,none⟩) l/\K_ w w'/\w.heap.size<=b:=by
 have s:=run_make_row' (P:=prog) 25 9 _ _ underlying25 Tryz.wP rfl .i64 .i64 l.length (by omega) (by omega);go_enter func8,ntmps8
 go_wp2
 clear s;have h:=World.rowIs_made w (.string ByteArray.empty) l.length 9;have m:K_ w (w.alloc (.cells (madeCells #[.string ByteArray.empty] l.length) 9)):=Below.alloc (Below.refl _ _) (OU _) _;go_loopw [4] (fun i wr=>∃k:Nat,k<=l.length/\i= .int .i64 k/\K_ w wr/\(∃n,wr.rowIs w.heap.size 9 l.length n)/\∀j,j<k->wr.cell? ⟨w.heap.size,j,none⟩=some (.string (l.getD j ByteArray.empty))) (fun i _=>l.length-(intOf i).toNat)
 case atStart=>exact⟨0,OW _,rfl,m,⟨_,h⟩,fun j d=>aB d⟩
 case round=>
  obtain⟨k,B,rfl,f,⟨n,c⟩,g⟩:=hrel;clear h m;by_cases p:k<l.length
  ·obtain⟨b,o,rfl,C,D⟩:=r.kept f k p;have E:=c.frozen k;have t:=c.cell p;have⟨v,x⟩:=aD c g;clear c g;generalize q:l.getD k ByteArray.empty=y at *;have z:=Kz q;clear q;go_wp2
   go_roundw
   case rel=>
    refine⟨k+1,by omega,by go_num,Below.setCell f (OU _) _,⟨_,(aP v).set k (.string y)⟩,fun j d=>?_⟩;by_cases e:j=k
    ·subst e;rw[Qb _ _ _ t,aP z]
    ·rw[Pq _ _ _ _ (by simp <;> omega)];exact aP x j (by omega)
   case measure=>simp[intOf];omega
  ·go_wp2
   go_ret
   have:k=l.length:=by omega
   subst this;exact⟨w.heap.size,rfl,fun j d=>⟨w.heap.size,0,rfl,c.lt,by rw[PD];exact g j d⟩,f,OU _⟩
theorem Oj(vs:Array QA)(W:Qy):(Instr.typeAssert (.iface 270 (.agg vs)) 250 270 true).run prog W= .ok (.tuple #[.agg vs,.bool true]) W:=by kernel_rfl
theorem FJ(w:Qy)(s:Xq)(y:s.fin=false)(d f a:Qx)(ca cc cap:Nat)(ans:List Xz)(z:s.Fits)(A:Strs w d s.asks)(B:dw w f s.cases)(C:ans.length<=maxLen)(D:∀c∈ans,c.text.size<=maxLen)(E:eP w a ans)
  (l:s.asks.length≠0->0<=s.on/\s.on<s.asks.length) (n:∀i,i<s.asks.length->(s.asks.getD i ByteArray.empty).size<=20):
  Calls prog 194 #[.iface 270 (.agg #[.slice d s.asks.length ca,.int .i64 s.on,.slice f s.cases.length cc,.int .i64 s.els,.int .i64 s.fall,.bool false,.bool s.bad,.string s.give]),.slice a ans.length cap] w fun e w'=>(∃g,e= .returned (.agg g.cells.toArray)/\Followed s ans g)/\K_ w w':=by
 have p:∀W,K_ w W->Calls prog 211 #[.agg #[.slice d s.asks.length ca,.int .i64 s.on,.slice f s.cases.length cc,.int .i64 s.els,.int .i64 s.fall,.bool false,.bool s.bad,.string s.give],.slice a ans.length cap] W fun e w'=>(∃g,e= .returned (.agg g.cells.toArray)/\Followed s ans g)/\K_ W w':=fun W j=>by
  have h:=Ef W s d f a ca cc cap ans z (A.kept j) (B.kept j) C D (E.kept j) l n;rw[y] at h;exact h
 have F:=Kz p;clear p l n;have L:=Oj;go_enter func194,ntmps194
 go_wp2_with fail
 refine (aP F _ (by repeat (first | apply K_.alloc | exact K_.refl _))).mono ?_;rintro e k ⟨⟨g,rfl,q⟩,b⟩;have r:Row k w.heap.size 4:=Row.kept (Row.alloc (by have:=Row.made w #[.int .i64 0,.bool false,.int .i64 0,.string ⟨#[]⟩] 244;simpa using this) _) b;have G:K_ w k:=K_.trans (by repeat (first | apply K_.alloc | exact K_.refl _)) b;obtain⟨c,o,t,x⟩:=g;have⟨H,I⟩:=aD q r;clear q r;obtain⟨M,N⟩:=b.rules;have J:=b.size;simp only[PL] at J;clear b;have v:(bW.mk c o t x).cells.toArray= #[.int .i64 c,.bool o,.int .i64 t,.string x]:=rfl;rw[v];clear v;go_wp2
 have K:=OY k w.heap.size 0 (bW.mk c o t x).cells (I.o.there (o:=0) (m:=4) (OU _));exact Zx (bW.mk c o t x).cells _ results194 rfl K underlying244 rfl Tryz.dL rfl ⟨⟨_,rfl,H.o⟩,K_.setCells (g:=w.heap.size) (by omega) (bW.mk c o t x).cells 0 G⟩
