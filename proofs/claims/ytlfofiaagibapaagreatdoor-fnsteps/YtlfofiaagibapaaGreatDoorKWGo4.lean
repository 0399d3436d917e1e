import Derived.Test.YtlfofiaagibapaaGreatDoorProg
import Derived.Test.YtlfofiaagibapaaGreatDoorKVBfs
import Derived.WalkSpells
import Derived.WalkLawsBesides
import Derived.Deep.RegionWith
import Derived.Lib.AppendZeros
set_option maxRecDepth 100000
set_option maxHeartbeats 25600000
namespace Go.Proofs.YtlfofiaagibapaaGreatDoor
open Go.RowKit Go.Proofs.Tryz
theorem Tryz.Bp :(prog.info? 9).map (λi=>(i.zero,i.size,i.bytes))=some (some (.string ByteArray.empty),1,16):=F4
structure Qz where
 name:NL
 cost:Int
 steps:List Xq
def Qz.zero :Qz:=⟨ByteArray.empty,0,[]⟩
def Qz.cells(d:Qz)(a:NM)(cap:Nat):List NP:=[.string d.name,.a d.cost,.slice a d.steps.length cap]
def Bb(w:NN)(cs:List NP)(d:Qz):Prop:=∃a cap,cs=d.cells a cap/\Steps w a d.steps
theorem Bb.kept{w w':NN}{cs:List NP}{d:Qz}(h:Bb w cs d)(k:K_ w w'):Bb w' cs d:=by
 let⟨a,c,e,f⟩:=h;exact⟨a,c,e,f.kept k⟩
def bQ(w:NN)(a:NM)(l:List Qz):Prop:=∀i,i<l.length->∃b o cs,a=some ⟨b,o,none⟩/\b<w.heap.size/\w.rangeAt b (o+i*3) cs/\Bb w cs (l.getD i Qz.zero)
theorem bQ.kept{w w':NN}{a:NM}{l:List Qz}(h:bQ w a l)(k:K_ w w'):bQ w' a l:=by
 intro i c;let⟨d,o,e,f,b,j,m⟩:=h i c;exact⟨d,o,e,f,Mk b k.size,k.range b j,m.kept k⟩
structure Qz.Fits (d:Qz):Prop where
 name:d.name.size<=maxLen
 cost:In64 d.cost
 steps:d.steps.length<=maxLen
 each:∀s∈d.steps,s.Fits
theorem size_setCells(g:Nat):∀(vs:List NP)(o:Nat)(w:NN),(w.setCells g o vs).heap.size=w.heap.size
 |[],_,_=>rfl
 |v :: r,o,w=>by rw[World.setCells,size_setCells g r (o+1),size_setCell]
theorem Tryz.nE :(prog.info? 33).map (λi=>(i.zero,i.size,i.bytes))=some (some (.agg #[.string ⟨#[]⟩,.a 0,M3]),3,48):=F4
theorem Tryz.mD :(prog.info? 25).map (·.size)=some 1:=F4
theorem Tryz.LD :prog.underlying 3=some (.int .i64):=F4
theorem fu :∀(x y z:List UInt8),Op.bytesLess x y=true->Op.bytesLess y z=true->Op.bytesLess x z=true
 |[],[],_,h,_=>by simp[Op.bytesLess] at h
 |[],_ :: _,[],_,h=>by simp[Op.bytesLess] at h
 |[],_ :: _,_ :: _,_,_=>by simp[Op.bytesLess]
 |_ :: _,[],_,h,_=>by simp[Op.bytesLess] at h
 |_ :: _,_ :: _,[],_,h=>by simp[Op.bytesLess] at h
 |a :: x,b :: y,c :: z,e,d=>by
  have f:=fu x y z;simp only[Op.bytesLess,Bool.or_eq_true,Bool.and_eq_true,NF,beq_iff_eq] at e d⊢;rcases e with e|⟨rfl,e⟩
  .rcases d with d|⟨rfl,d⟩
   .exact .inl (UInt8.lt_trans e d)
   .exact .inl e
  .rcases d with d|⟨rfl,d⟩
   .exact .inl d
   .exact .inr ⟨rfl,f e d⟩
theorem dP :∀x:List UInt8,Op.bytesLess x x=false
 |[]=>rfl
 |a :: x=>by
  have b:=dP x;simp[Op.bytesLess,b]
theorem qZ :∀x y:List UInt8,Op.bytesLess x y=false->x≠y->Op.bytesLess y x=true
 |[],[],_,h=>NB rfl h
 |[],_ :: _,h,_=>by simp[Op.bytesLess] at h
 |_ :: _,[],_,_=>rfl
 |a :: x,b :: y,h,hne=>by
  have f:=qZ x y;simp only[Op.bytesLess,Bool.or_eq_false_iff,decide_eq_false_iff_not,Bool.and_eq_false_iff,beq_eq_false_iff_ne] at h;simp only[Op.bytesLess,Bool.or_eq_true,Bool.and_eq_true,NF,beq_iff_eq];by_cases e:a=b
  .subst e
   right
   refine⟨rfl,f ?_ λe=>hne (by rw[e])⟩;rcases h.2 with c|c
   .exact NB rfl c
   .exact c
  .left
   have d:=h.1;rw[UInt8.not_lt] at d;exact UInt8.lt_of_le_of_ne d λi=>e i.symm
def nameAt(l:List Qz)(i:Nat):List UInt8:=(l.getD i Qz.zero).name.toList
def f_(l:List Qz):Prop:=∀i j,i<j->j<l.length->Op.bytesLess (nameAt l i) (nameAt l j)=true
theorem CQ{l:List Qz}(h:∀i,i+1<l.length->Op.bytesLess (nameAt l i) (nameAt l (i+1))=true):f_ l:=by
 intro i j b a
 induction j with
 |zero=>omega
 |succ j ih=>
  by_cases e:i=j
  .subst e;exact h i a
  .exact fu _ _ _ (ih E5 E5) (h j a)
structure Place (l:List Qz)(key:List UInt8)(p:Nat):Prop where
 le:p<=l.length
 before:∀j,j<p->Op.bytesLess (nameAt l j) key=true
 behind:∀j,p<=j->j<l.length->Op.bytesLess (nameAt l j) key=false
theorem Place.only{l:List Qz}{a:List UInt8}{p j:Nat}(c:f_ l)(h:Place l a p)(d:j<l.length)(e:nameAt l j=a):j=p:=by
 by_cases f:j<p
 .have:=h.before j f;rw[e,dP] at this;cases this
 .by_cases i:p<j
  .have b:=c p j i d;rw[e] at b;have:=h.behind p (Mj _) E5;rw[b] at this;cases this
  .omega
theorem Tryz.Dg :(prog.info? 100).map (λi=>(i.zero,i.size,i.bytes))=some (some (.agg #[.bool false,.string ByteArray.empty]),2,24):=F4
def dI(l:List Xz):List NP:=(l.map Xz.cells).flatten
theorem ul(l:List Xz):(dI l).length=l.length*2:=by
 induction l with
 |nil=>rfl
 |cons c r ih=>simp only[dI,List.map_cons,List.flatten_cons,M_,Nc] at ih⊢;rw[ih];simp[Xz.cells];omega
theorem pR(l:List Xz)(c:Xz):dI (l++[c])=dI l++c.cells:=by simp[dI]
theorem qU :∀(l:List Xz)(i j:Nat),i<l.length->j<2->(dI l)[i*2+j]? = ((l.getD i Xz.zero).cells)[j]?
 |[],_,_,h,_=>aO h
 |c :: r,0,j,_,hj=>by
  have e:dI (c :: r)=c.cells++dI r:=rfl;rw[e,Nat.zero_mul,MR,Np (by simpa[Xz.cells] using hj)]
  rfl
 |c :: r,i+1,j,h,hj=>by
  have e:dI (c :: r)=c.cells++dI r:=rfl;have b:c.cells.length=2:=rfl;rw[e,Nq (by rw[b];omega),b,show (i+1)*2+j-2=i*2+j by omega,qU r i j (by simpa using h) hj]
  rfl
def Lc(w:NN)(a:NM)(l:List Xz):Prop:=l=[]\/∃b cur fr,a=some ⟨b,0,none⟩/\w.heap[b]? =some (Obj.cells cur 100 fr)/\∀i,i<l.length->w.rangeAt b (i*2) (l.getD i Xz.zero).cells
theorem Lc.answers{w:NN}{a:NM}{l:List Xz}(h:Lc w a l):fD w a l:=by
 rcases h with rfl|⟨c,j,k,d,e,f⟩
 .intro i b;simp at b
 .exact λi b=>⟨c,0,d,aM e,by rw[MR];exact f i b⟩
theorem jJ{w:NN}{base:Nat}{v:NP}{n:Nat}{l:List Xz}(h:w.ownsRow base 100 2 v n (dI l)):∃a b,v=.slice a l.length b/\l.length<=b/\Lc w a l:=by
 have e:n=l.length:=by have:=h.1;rw[ul] at this;omega
 subst e;rcases h.2 with⟨rfl,c⟩|⟨g,b,f,rfl,r,k,m,_,_,_⟩
 .exact⟨none,0,by rw[c],E5,.inl (NE c)⟩
 .refine⟨_,b,rfl,m,.inr ⟨g,f,_,rfl,k,λi p j u d=>?_⟩⟩;have q:j<2:=by have:=(Mr.1 d).1;simpa[Xz.cells] using this
  have:=h.cells (g:=g) rfl (i*2+j) u (by rw[qU l i j p q];exact d);rw[Nf,MR] at this;exact this
structure b_ where
 code:Int
 over:Bool
 at':Int
 text:NL
def b_.cells(g:b_):List NP:=[.a g.code,.bool g.over,.a g.at',.string g.text]
theorem xJ(w:NN)(c:Xz)(a:c.text.size<=maxLen):Calls prog 202 #[.agg #[.bool c.fail,.string c.text]] w λe w'=>Says e (200<c.text.size)/\K_ w w':=by
 unfold maxLen at a;go_enter func202,ntmps202
 go_wp2
 go_ret
 exact⟨(Says.dec _).congr ⟨λh=>E5,λh=>E5⟩,ah _ _⟩
theorem Ew(w:NN)(c:Xz):Calls prog 173 #[.agg #[.bool c.fail,.string c.text]] w λe w'=>Says e (c.fail=true)/\K_ w w':=by
 go_enter func173,ntmps173
 go_wp2
 go_ret
 exact⟨⟨c.fail,rfl,Iff.rfl⟩,ah _ _⟩
def Ab(l:List Xz)(p:Xz->Prop)(r:Int):Prop:=(∃i,i<l.length/\r= (i:Int)/\p (l.getD i Xz.zero)/\∀j,j<i->¬p (l.getD j Xz.zero))\/(r= -1/\∀j,j<l.length->¬p (l.getD j Xz.zero))
def mM(l:List Xz)(p:Xz->Prop)(k:Nat):Prop:=∀j,j<k->¬p (l.getD j Xz.zero)
def pq(c:Xz):Prop:=200<c.text.size
def iI(c:Xz):Prop:=c.fail=true
theorem Gy(w:NN)(a:NM)(C:Nat)(l:List Xz)(D:l.length<=maxLen)(E:∀c∈l,c.text.size<=maxLen)(F:fD w a l):Calls prog 172 #[.slice a l.length C,.func (.func 202) #[] #[]] w λe w'=>(∃r,e=.returned (.a r)/\Ab l pq r)/\K_ w w':=by
 unfold maxLen at D;go_enter func172,ntmps172
 go_wp2
 go_loopw [8] (λi wr=>∃k:Nat,k<=l.length/\i=.a k/\K_ w wr/\mM l pq k) (λi _=>l.length-(intOf i).toNat)
 case atStart=>exact⟨0,Ml _,rfl,K_.refl _,λj h=>aO h⟩
 case round=>
  obtain⟨k,J,rfl,d,s⟩:=hrel;have m:=Kz s;clear s;by_cases n:k<l.length
  .obtain⟨b,o,rfl,K,f⟩:=F.kept d k n;have t:(l.getD k Xz.zero).text.size<=maxLen:=E _ (by simp[List.getD,n]);let⟨c,p⟩:=aj (l.getD k Xz.zero);rw[<-p] at f t;have v:=Kz p;clear p;have x:=f 0 _ rfl;have G:=f 1 _ rfl;simp only[Ng] at x;clear f;go_wp2_with fail
   refine (xJ _ c t).mono ?_;rintro e L ⟨q,y⟩;have z:=d.trans y;clear x G d y;rcases q.cases with⟨rfl,A⟩|⟨rfl,B⟩
   .have H:=Kz A;clear A q;go_wp2
    go_ret
    exact⟨⟨k,rfl,Or.inl ⟨k,n,rfl,by rw[<-v.o];exact H.o,m.o⟩⟩,z⟩
   .have I:=Kz B;clear B q;go_wp2
    go_roundw
    case rel=>
     refine⟨k+1,E5,F3,z,λj h=>?_⟩;by_cases e:j=k
     .subst e;rw[<-v.o];exact I.o
     .exact m.o j E5
    case measure=>simp[intOf];omega
  .go_wp2
   go_ret
   exact⟨⟨-1,rfl,Or.inr ⟨rfl,λj h=>m.o j E5⟩⟩,d⟩
theorem zR(w:NN)(a:NM)(B:Nat)(l:List Xz)(C:l.length<=maxLen)(D:∀c∈l,c.text.size<=maxLen)(E:fD w a l):Calls prog 172 #[.slice a l.length B,.func (.func 173) #[] #[]] w λe w'=>(∃r,e=.returned (.a r)/\Ab l iI r)/\K_ w w':=by
 unfold maxLen at C;go_enter func172,ntmps172
 go_wp2
 go_loopw [8] (λi wr=>∃k:Nat,k<=l.length/\i=.a k/\K_ w wr/\mM l iI k) (λi _=>l.length-(intOf i).toNat)
 case atStart=>exact⟨0,Ml _,rfl,K_.refl _,λj h=>aO h⟩
 case round=>
  obtain⟨k,J,rfl,d,s⟩:=hrel;have m:=Kz s;clear s;by_cases n:k<l.length
  .obtain⟨b,o,rfl,K,f⟩:=E.kept d k n;have F:(l.getD k Xz.zero).text.size<=maxLen:=D _ (by simp[List.getD,n]);let⟨c,p⟩:=aj (l.getD k Xz.zero);rw[<-p] at f F;have t:=Kz p;clear p;have v:=f 0 _ rfl;have G:=f 1 _ rfl;simp only[Ng] at v;clear f;go_wp2_with fail
   refine (Ew _ c).mono ?_;rintro e L ⟨q,x⟩;have y:=d.trans x;clear v G d x;rcases q.cases with⟨rfl,z⟩|⟨rfl,A⟩
   .have H:=Kz z;clear z q;go_wp2
    go_ret
    exact⟨⟨k,rfl,Or.inl ⟨k,n,rfl,by rw[<-t.o];exact H.o,m.o⟩⟩,y⟩
   .have I:=Kz A;clear A q;go_wp2
    go_roundw
    case rel=>
     refine⟨k+1,E5,F3,y,λj h=>?_⟩;by_cases e:j=k
     .subst e;rw[<-t.o];exact I.o
     .exact m.o j E5
    case measure=>simp[intOf];omega
  .go_wp2
   go_ret
   exact⟨⟨-1,rfl,Or.inr ⟨rfl,λj h=>m.o j E5⟩⟩,d⟩
theorem Ao(w:NN)(a:NM)(f:Nat)(l:List Xz)(n:l.length<=maxLen)(p:∀c∈l,c.text.size<=maxLen)(q:fD w a l):Calls prog 201 #[.slice a l.length f,.func (.func 202) #[] #[]] w λe w'=>Says e (∃i,i<l.length/\pq (l.getD i Xz.zero))/\K_ w w':=by
 go_enter func201,ntmps201
 go_wp2_with fail
 refine (Gy _ a f l n p q).mono ?_;rintro e v ⟨⟨r,rfl,h⟩,j⟩;have k:=Kz h;clear h;by_cases m:0<=r
 .have s:decide (0<=r)=true:=by simpa using m
  go_wp2
  go_ret
  exact⟨Says.yes (by rcases k.o with⟨i,b,_,d,_⟩|⟨rfl,_⟩;exact⟨i,b,d⟩;omega),j⟩
 .have s:decide (0<=r)=false:=by simpa using m
  go_wp2
  go_ret
  exact⟨Says.no (by rcases k.o with⟨i,b,rfl,d,_⟩|⟨rfl,t⟩;omega;exact λ⟨i,b,d⟩=>t i b d),j⟩
def tT(s:Xq)(t:NL)(i:Nat):Prop:=(s.cases.getD i bU.zero).text=t
def CaseTo(s:Xq)(t:NL)(k:Nat):Prop:=∀j,j<k->¬tT s t j
def DU(s:Xq)(i:Nat):Int:=(s.cases.getD i bU.zero).goto
def mF(ans:List Xz)(i:Int):NL:=(ans.getD i.toNat Xz.zero).text
def xg(s:Xq)(ans:List Xz)(r:Int):Prop:=(ans.length=0/\r=s.els)\/
 (ans.length≠0/\((∃i,i<s.cases.length/\tT s (mF ans s.on) i/\CaseTo s (mF ans s.on) i/\r=DU s i)\/(CaseTo s (mF ans s.on) s.cases.length/\r=s.els)))
theorem xg.unique{s:Xq}{ans:List Xz}{r c:Int}(h:xg s ans r)(f:xg s ans c):r=c:=by
 rcases h with⟨k,rfl⟩|⟨k,⟨i,l,d,a,rfl⟩|⟨a,rfl⟩⟩<;>rcases f with⟨m,rfl⟩|⟨m,⟨j,n,e,b,rfl⟩|⟨b,rfl⟩⟩
 all_goals first|rfl|(exfalso;omega)|skip
 .rcases Ny i j with h|rfl|h
  .exact NB d (b i h)
  .rfl
  .exact NB e (a j h)
 .exact NB d (b i l)
 .exact NB e (a j n)
theorem Du(w:NN)(s:Xq)(n d a:NM)(p q O:Nat)(ans:List Xz)(P:s.cases.length<=maxLen)(Q:lm w d s.cases)(_hl:ans.length<=maxLen)(R:fD w a ans)(F:ans.length≠0->0<=s.on/\s.on<ans.length):Calls prog 203 #[.agg #[.slice n s.asks.length p,.a s.on,.slice d s.cases.length q,.a s.els,.a s.fall,.bool s.fin,.bool s.bad,.string s.give],.slice a ans.length O] w λe w'=>(∃r,e=.returned (.a r)/\xg s ans r)/\K_ w w':=by
 unfold maxLen at _hl P;have S:K_ w (w.alloc (.cells #[.slice n s.asks.length p,.a s.on,.slice d s.cases.length q,.a s.els,.a s.fall,.bool s.fin,.bool s.bad,.string s.give] 230)):=ah _ _;cases f:((ans.length:Int) == 0)
 .have v:ans.length≠0:=by simp at f;simpa using f
  let⟨G,T⟩:=F v;clear F;have H:=Kz v;clear v;let⟨t,I⟩:=aj (mF ans s.on);have h:=Kz I;clear I;let⟨x,y⟩:=Int.eq_ofNat_of_zero_le G;have U:=Kz y;go_enter func203,ntmps203
  rw[y] at G T⊢;clear y;go_wp2
  go_loopw [17] (λz wr=>∃k:Nat,k<=s.cases.length/\z=.a k/\K_ (w.alloc (.cells #[.slice n s.asks.length p,.a x,.slice d s.cases.length q,.a s.els,.a s.fall,.bool s.fin,.bool s.bad,.string s.give] 230)) wr/\CaseTo s t k) (λz _=>s.cases.length-(intOf z).toNat)
  case atStart=>exact⟨0,Ml _,rfl,K_.refl _,λj A=>aO A⟩
  case round=>
   obtain⟨k,a0,rfl,i,J⟩:=hrel;have B:=Kz J;clear J;have V:=i.size;simp only[MZ] at V;have l:K_ w wr:=K_.trans (ah _ _) i;let⟨a1,a2⟩:=i.rules;by_cases K:k<s.cases.length
   .obtain⟨b,o,rfl,hb,m⟩:=Q.kept l k K;obtain⟨W,o',rfl,a3,L⟩:=R.kept l x E5;let⟨c,C⟩:=aj (s.cases.getD k bU.zero);rw[<-C] at m;have D:=Kz C;clear C;have X:=m 0 _ rfl;have c1:=m 1 _ rfl;have Y:=L 1 _ rfl;simp only[Ng] at X;have M:(ans.getD x Xz.zero).text=t:=by have E:=h.o;have Z:=U.o;unfold mF at E;rw[Z] at E;exact E.symm
    rw[M] at Y;clear m L M;have z0:w.heap.size<wr.heap.size:=E5;have z1:w.heap.size<wr.heap.size+1:=E5;have z2:W<wr.heap.size+1:=E5;cases N:(c.text.toList == t.toList)
    .go_wp2
     go_region
     all_goals
      go_wp2
      go_roundw
      case rel=>
       refine⟨k+1,E5,F3,by repeat (first|apply K_.drew|apply K_.alloc|exact i),λj A=>?_⟩;by_cases e:j=k
       .subst e;unfold tT;rw[<-D.o];exact tu N
       .exact B.o j E5
      case measure=>simp[intOf];omega
    .go_wp2
     go_region
     all_goals
      go_wp2
      go_ret
      exact⟨⟨c.goto,rfl,Or.inr ⟨H.o,Or.inl ⟨k,K,by unfold tT;rw[<-D.o,<-h.o];exact qh.1 N,by rw[<-h.o];exact B.o,by unfold DU;rw[<-D.o]⟩⟩⟩,by repeat (first|apply K_.drew|apply K_.alloc|exact l)⟩
   .go_wp2
    go_ret
    exact⟨⟨s.els,rfl,Or.inr ⟨H.o,Or.inr ⟨by rw[<-h.o];exact λj A=>B.o j E5,rfl⟩⟩⟩,l⟩
 .go_enter func203,ntmps203
  go_wp2
  go_ret
  exact⟨⟨s.els,rfl,Or.inl ⟨by simp at f;simpa using f,rfl⟩⟩,S⟩
def b_.none :b_:=⟨1,false,0,⟨#[]⟩⟩
def jR(s:Xq)(i:Nat):NL:=(⟨#[98,101,108,111,119,32]⟩:NL)++s.asks.getD i ByteArray.empty
def xG(s:Xq)(ans:List Xz):Prop:=ans.length=s.asks.length/\¬∃i,i<ans.length/\pq (ans.getD i Xz.zero)
def Followed(s:Xq)(ans:List Xz)(g:b_):Prop:=(¬xG s ans/\g=b_.none)\/
 (xG s ans/\((∃i,i<ans.length/\iI (ans.getD i Xz.zero)/\mM ans iI i/\((s.fall= -1/\g= ⟨0,true,0,jR s i⟩)\/(s.fall≠ -1/\g= ⟨0,false,s.fall,⟨#[]⟩⟩)))\/
  (mM ans iI ans.length/\∃r,xg s ans r/\g= ⟨0,false,r,⟨#[]⟩⟩)))
theorem Followed.unique{s:Xq}{ans:List Xz}{g k:b_}(h:Followed s ans g)(n:Followed s ans k):g=k:=by
 rcases h with⟨a,rfl⟩|⟨a,⟨i,p,l,b,⟨c,rfl⟩|⟨c,rfl⟩⟩|⟨b,v,q,rfl⟩⟩<;>rcases n with⟨d,rfl⟩|⟨d,⟨j,r,m,e,⟨f,rfl⟩|⟨f,rfl⟩⟩|⟨e,w,t,rfl⟩⟩
 all_goals first|rfl|exact NB d a|exact NB a d|exact NB f c|exact NB c f|exact NB l (e i p)|exact NB m (b j r)|skip
 .rcases Ny i j with h|rfl|h
  .exact NB l (e i h)
  .rfl
  .exact NB m (b j h)
 .rw[q.unique t]
theorem Tryz.dV :(prog.info? 168).map (·.size)=some 4:=F4
theorem CE(w:NN)(s:Xq)(f h a:NM)(k l t:Nat)(ans:List Xz)(M:s.Fits)(Z:Strs w f s.asks)(hC:lm w h s.cases)(v:ans.length<=maxLen)(N:∀c∈ans,c.text.size<=maxLen)(F:fD w a ans)(a1:s.asks.length≠0->0<=s.on/\s.on<s.asks.length)(a2:∀i,i<s.asks.length->(s.asks.getD i ByteArray.empty).size<=20):Calls prog 180 #[.agg #[.slice f s.asks.length k,.a s.on,.slice h s.cases.length l,.a s.els,.a s.fall,.bool s.fin,.bool s.bad,.string s.give],.slice a ans.length t] w λe w'=>(∃g,e=.returned (.agg g.cells.toArray)/\Followed s ans g)/\K_ w w':=by
 have a3:=v;have a4:=M.asks;unfold maxLen at a3 a4;have x:K_ w ((w.alloc (.cells #[.slice f s.asks.length k,.a s.on,.slice h s.cases.length l,.a s.els,.a s.fall,.bool s.fin,.bool s.bad,.string s.give] 230)).alloc (.cells #[.a 0,.bool false,.a 0,.string ⟨#[]⟩] 168)):=(ah _ _).alloc _;cases G:((ans.length:Int) != (s.asks.length:Int))
 .have O:ans.length=s.asks.length:=by simp at G;omega
  have y:=Kz O;clear O;go_enter func180,ntmps180
  go_wp2_with fail
  refine (Ao _ a t ans v N (F.kept x)).mono ?_;rintro e z ⟨H,j⟩;have A:=x.trans j;have P:Row z (w.heap.size+1) 4:=Row.kept (by have:=Row.made (w.alloc (.cells #[.slice f s.asks.length k,.a s.on,.slice h s.cases.length l,.a s.els,.a s.fall,.bool s.fin,.bool s.bad,.string s.give] 230)) #[.a 0,.bool false,.a 0,.string ⟨#[]⟩] 168;simpa using this) j;have I:=Kz P;clear P;let⟨b7,b8⟩:=j.rules;have a5:=j.size;simp only[MZ] at a5;rcases H.cases with⟨rfl,Q⟩|⟨rfl,R⟩
  .have HY:=Kz Q;clear Q H x j;go_wp2
   have b:=Mo z (w.heap.size+1) 0 b_.none.cells (I.o.there (o:=0) (m:=4) (Mj _));exact Zx b_.none.cells _ results180 rfl b underlying168 rfl Tryz.dV rfl ⟨⟨_,rfl,Or.inl ⟨λB=>B.2 HY.o,rfl⟩⟩,K_.setCells (g:=w.heap.size+1) E5 b_.none.cells 0 A⟩
  .have HN:=Kz R;clear R H x j;have z0:w.heap.size<z.heap.size:=E5;have z1:w.heap.size+1<z.heap.size:=E5;go_wp2_with fail
   refine (zR _ a t ans v N (F.kept A)).mono ?_;rintro e C ⟨⟨c1,rfl,hr⟩,n⟩;have d:=A.trans n;have S:=I.o.kept n;have D:=Kz S;let⟨c2,c3⟩:=n.rules;have c4:=n.size;have y0:w.heap.size<C.heap.size:=E5;have y1:w.heap.size+1<C.heap.size:=E5;clear S I n A;have J:Hid (xG s ans):=⟨y.o,HN.o⟩;rcases hr with⟨i,T,rfl,U,p⟩|⟨rfl,p⟩
   .have V:=Kz U;have E:=Kz p;clear U p;cases W:(s.fall == -1)
    .go_wp2
     have b:=Mo C (w.heap.size+1) 0 [.a 0,.bool false,.a s.fall,.string ⟨#[]⟩] (D.o.there (o:=0) (m:=4) (Mj _));exact Zx [.a 0,.bool false,.a s.fall,.string ⟨#[]⟩] _ results180 rfl b underlying168 rfl Tryz.dV rfl ⟨⟨⟨0,false,s.fall,⟨#[]⟩⟩,rfl,Or.inr ⟨J.o,Or.inl ⟨i,T,V.o,E.o,Or.inr ⟨by simpa using W,rfl⟩⟩⟩⟩,K_.setCells (g:=w.heap.size+1) E5 [.a 0,.bool false,.a s.fall,.string ⟨#[]⟩] 0 d⟩
    .obtain⟨ba,oa,rfl,c9,a9⟩:=Z.kept d i (by have:=y.o;omega);have b0:i<s.asks.length:=by have:=y.o;omega
     let⟨K,L⟩:=aj (s.asks.getD i ByteArray.empty);have b1:=a2 i b0;rw[<-L] at a9 b1;have HV:=Kz L;clear L;go_wp2
     have b:=Mo C (w.heap.size+1) 0 [.a 0,.bool true,.a 0,.string ((⟨#[98,101,108,111,119,32]⟩:NL)++K)] (D.o.there (o:=0) (m:=4) (Mj _));exact Zx [.a 0,.bool true,.a 0,.string ((⟨#[98,101,108,111,119,32]⟩:NL)++K)] _ results180 rfl b underlying168 rfl Tryz.dV rfl ⟨⟨⟨0,true,0,_⟩,rfl,Or.inr ⟨J.o,Or.inl ⟨i,T,V.o,E.o,Or.inl ⟨by simpa using W,by unfold jR;rw[<-HV.o]⟩⟩⟩⟩,K_.setCells (g:=w.heap.size+1) E5 [.a 0,.bool true,.a 0,.string ((⟨#[98,101,108,111,119,32]⟩:NL)++K)] 0 d⟩
   .have E:=Kz p;clear p;go_wp2_with fail
    refine (Du _ s f h a k l t ans M.cases (hC.kept d) v (F.kept d) λB=>by have h1:=y.o;have h2:=a1 E5;omega).mono ?_;rintro e w3 ⟨⟨q,rfl,X⟩,r⟩;have K3:=d.trans r;have Y:=D.o.kept r;have⟨b5,HQ⟩:=aH Y X;let⟨d2,d3⟩:=r.rules;have d4:=r.size;clear Y D r d X;go_wp2
    have b:=Mo w3 (w.heap.size+1) 0 [.a 0,.bool false,.a q,.string ⟨#[]⟩] (b5.o.there (o:=0) (m:=4) (Mj _));exact Zx [.a 0,.bool false,.a q,.string ⟨#[]⟩] _ results180 rfl b underlying168 rfl Tryz.dV rfl ⟨⟨⟨0,false,q,⟨#[]⟩⟩,rfl,Or.inr ⟨J.o,Or.inr ⟨E.o,q,HQ.o,rfl⟩⟩⟩,K_.setCells (g:=w.heap.size+1) E5 [.a 0,.bool false,.a q,.string ⟨#[]⟩] 0 K3⟩
 .go_enter func180,ntmps180
  go_wp2
  have b:=X_ (w.alloc (.cells #[.slice f s.asks.length k,.a s.on,.slice h s.cases.length l,.a s.els,.a s.fall,.bool s.fin,.bool s.bad,.string s.give] 230)) #[.a 1,.bool false,.a 0,.string ⟨#[]⟩] 168;rw[MZ] at b;exact Zx b_.none.cells _ results180 rfl b underlying168 rfl Tryz.dV rfl ⟨⟨_,rfl,Or.inl ⟨λB=>by simp at G;exact G (by have:=B.1;omega),rfl⟩⟩,(ah _ _).alloc _⟩
theorem LK(vs:Array NP)(W:NN):(Instr.typeAssert (.iface 230 (.agg vs)) 203 230 true).run prog W=.ok (.tuple #[.agg vs,.bool true]) W:=F4
theorem Dv(w:NN)(s:Xq)(B:s.fin=false)(d f a:NM)(j k l:Nat)(ans:List Xz)(C:s.Fits)(D:Strs w d s.asks)(E:lm w f s.cases)(F:ans.length<=maxLen)(G:∀c∈ans,c.text.size<=maxLen)(H:fD w a ans)(q:s.asks.length≠0->0<=s.on/\s.on<s.asks.length)(r:∀i,i<s.asks.length->(s.asks.getD i ByteArray.empty).size<=20):Calls prog 147 #[.iface 230 (.agg #[.slice d s.asks.length j,.a s.on,.slice f s.cases.length k,.a s.els,.a s.fall,.bool false,.bool s.bad,.string s.give]),.slice a ans.length l] w λe w'=>(∃g,e=.returned (.agg g.cells.toArray)/\Followed s ans g)/\K_ w w':=by
 have v:∀W,K_ w W->Calls prog 180 #[.agg #[.slice d s.asks.length j,.a s.on,.slice f s.cases.length k,.a s.els,.a s.fall,.bool false,.bool s.bad,.string s.give],.slice a ans.length l] W λe w'=>(∃g,e=.returned (.agg g.cells.toArray)/\Followed s ans g)/\K_ W w':=λW n=>by
  have h:=CE W s d f a j k l ans C (D.kept n) (E.kept n) F G (H.kept n) q r;rw[B] at h;exact h
 have I:=Kz v;clear v q r;have O:=LK;go_enter func147,ntmps147
 go_wp2_with fail
 refine (bg I _ G9).mono ?_;rintro e p ⟨⟨g,rfl,y⟩,b⟩;have z:Row p w.heap.size 4:=Row.kept (Row.alloc (by have:=Row.made w #[.a 0,.bool false,.a 0,.string ⟨#[]⟩] 168;simpa using this) _) b;have J:K_ w p:=K_.trans G9 b;let⟨c,o,t,x⟩:=g;have⟨K,L⟩:=aH y z;clear y z;let⟨P,Q⟩:=b.rules;have M:=b.size;simp only[MZ] at M;clear b;have A:(b_.mk c o t x).cells.toArray= #[.a c,.bool o,.a t,.string x]:=rfl;rw[A];clear A;go_wp2
 have N:=Mo p w.heap.size 0 (b_.mk c o t x).cells (L.o.there (o:=0) (m:=4) (Mj _));exact Zx (b_.mk c o t x).cells _ results147 rfl N underlying168 rfl Tryz.dV rfl ⟨⟨_,rfl,K.o⟩,K_.setCells (g:=w.heap.size) E5 (b_.mk c o t x).cells 0 J⟩
