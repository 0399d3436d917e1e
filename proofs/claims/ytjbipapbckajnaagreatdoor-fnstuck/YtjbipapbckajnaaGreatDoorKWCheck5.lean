import Derived.Test.YtjbipapbckajnaaGreatDoorKWGo7
set_option maxRecDepth 100000
set_option maxHeartbeats 25600000
namespace Go.Proofs.YtjbipapbckajnaaGreatDoor
open Go.RowKit Go.Proofs.Tryz
theorem oh(w:Pv)(x y z:Pw)(s:Ps)(c:x= .string s):
  Calls prog 99 #[.agg #[x,y,z]] w λe w'=>e= .returned (.string s)/\K_ w w':=by
 subst c;go_enter func99,ntmps99
 go_wp2
 go_ret
 exact⟨rfl,ah _ _⟩
theorem Iw{w a:Pv}{x y:Pw}{t:TypeId}(K:K_ (w.alloc (.cells #[x,y] t)) a):a.cell? ⟨w.heap.size,0,none⟩=some x/\a.cell? ⟨w.heap.size,1,none⟩=some y:=by
 constructor
 .rw[K.cell A9];simp
 .rw[K.cell A9];simp
theorem gZ{m:Int}(a: -9223372036854775808<=m)(h2:m<=9223372036854775807):IntKind.i64.wrap m=m:=by
 simp only[IntKind.wrap,IntKind.signed,IntKind.bits]
 first | omega | (simp;omega)
theorem yV(w:Pv)(a:Pt)(d:Nat)(l:List Qq)(S:l.length<=maxLen)(E:bN w a l):
  Calls prog 95 #[.agg #[.slice a l.length d,.func (.func 99) #[] #[]]] w λe w'=>Says e (¬iL l)/\K_ w w':=by
 unfold maxLen at S;have p:K_ w (w.alloc (.cells #[.slice a l.length d,.func (.func 99) #[] #[]] 100)):=ah _ _;go_enter func95,ntmps95
 go_wp2
 go_loopw [3] (λj wr=>∃n:Nat,1<=n/\n<=l.length+1/\j= .a n/\K_ (w.alloc (.cells #[.slice a l.length d,.func (.func 99) #[] #[]] 100)) wr/\Gb l n) (λj _=>l.length+2-(intOf j).toNat)
 case atStart=>exact⟨1,A7,A7,rfl,K_.refl _,λq F=>Pg F A7⟩
 case round=>
  obtain⟨n,a0,a1,rfl,f,G⟩:=hrel;have H:=Kz G;clear G;have T:=f.size;simp only[OC] at T;have I:w.heap.size<wr.heap.size:=A7;obtain⟨U,V⟩:=Iw f;by_cases W:n<l.length
  .have J:K_ w wr:=p.trans f;obtain⟨b,o,cs,rfl,i,k,r,s,rfl,X⟩:=E.kept J (n-1) A7;obtain⟨b',o',a2,K,a3,m,t,v,rfl,Y⟩:=E.kept J n W;simp only[OE,Po,and_true] at K;obtain⟨rfl,rfl⟩:=K;obtain⟨x,z⟩:=ai ((l.getD (n-1) Qq.zero));obtain⟨y,A⟩:=ai ((l.getD n Qq.zero));rw[<-z] at k;rw[<-A] at m;have L:Hid (l.getD (n-1) Qq.zero=x):=z.symm;have M:Hid (l.getD (n-1+1) Qq.zero=y):=by rw[A,show n-1+1=n by omega];exact rfl
   clear z A X Y;have N:=k 0 _ rfl;have Z:=k 1 _ rfl;have c2:=k 2 _ rfl;have O:=m 0 _ rfl;have d1:=m 1 _ rfl;have d2:=m 2 _ rfl;simp only[OJ] at N O;clear k m;have i0:(0:Int)<=(n:Int)-1:=A7;have i1:(n:Int)-1<(l.length:Int):=A7;have i2:(n:Int)<(l.length:Int):=A7;have i5:(1:Int)<=(n:Int):=A7;have i6:(n:Int)<=(l.length:Int):=A7;have i7:n<=l.length:=A7;have i3:((n:Int)-1).toNat=n-1:=A7;have i4:IntKind.i64.wrap ((n:Int)-1)= (n:Int)-1:=gZ A7 A7;have P:∀w',K_ wr w'->(λw'=>J4 w' b (o+ (n-1)*3) (.string x.name)/\J4 w' b (o+ (n-1)*3+1) (.a x.cost)/\J4 w' b (o+ (n-1)*3+2) (.slice r x.steps.length s)/\J4 w' b (o+n*3) (.string y.name)/\J4 w' b (o+n*3+1) (.a y.cost)/\J4 w' b (o+n*3+2) (.slice t y.steps.length v)/\J4 w' w.heap.size 0 (.slice (some ⟨b,o,none⟩) l.length d)/\J4 w' w.heap.size 1 (.func (.func 99) #[] #[])) w':=λw' c=>⟨(K_.cell c i).trans N,(K_.cell c i).trans Z,(K_.cell c i).trans c2,(K_.cell c i).trans O,(K_.cell c i).trans d1,(K_.cell c i).trans d2,(K_.cell c I).trans U,(K_.cell c I).trans V⟩
   have Q:=Kz P;clear P;cases R:Op.bytesLess x.name.toList y.name.toList
   .go_wp2
    go_region_held (λw'=>J4 w' b (o+ (n-1)*3) (.string x.name)/\J4 w' b (o+ (n-1)*3+1) (.a x.cost)/\J4 w' b (o+ (n-1)*3+2) (.slice r x.steps.length s)/\J4 w' b (o+n*3) (.string y.name)/\J4 w' b (o+n*3+1) (.a y.cost)/\J4 w' b (o+n*3+2) (.slice t y.steps.length v)/\J4 w' w.heap.size 0 (.slice (some ⟨b,o,none⟩) l.length d)/\J4 w' w.heap.size 1 (.func (.func 99) #[] #[])) (exact bC Q _ H7) ((go_at_call 99;refine (oh _ _ _ _ _ rfl).mono ?_;rintro e B ⟨rfl,C⟩;have c:K_ wr B:=K_.trans H7 C))
    all_goals
     have D:=f.trans c;go_wp2
     go_ret
     exact⟨Says.no λh=>h ⟨n-1,A7,by unfold qU;rw[L.o,M.o];exact R⟩,p.trans (by repeat (first | apply K_.drew | exact D))⟩
   .go_wp2
    go_region_held (λw'=>J4 w' b (o+ (n-1)*3) (.string x.name)/\J4 w' b (o+ (n-1)*3+1) (.a x.cost)/\J4 w' b (o+ (n-1)*3+2) (.slice r x.steps.length s)/\J4 w' b (o+n*3) (.string y.name)/\J4 w' b (o+n*3+1) (.a y.cost)/\J4 w' b (o+n*3+2) (.slice t y.steps.length v)/\J4 w' w.heap.size 0 (.slice (some ⟨b,o,none⟩) l.length d)/\J4 w' w.heap.size 1 (.func (.func 99) #[] #[])) (exact bC Q _ H7) ((go_at_call 99;refine (oh _ _ _ _ _ rfl).mono ?_;rintro e B ⟨rfl,C⟩;have c:K_ wr B:=K_.trans H7 C))
    all_goals
     have D:=f.trans c;go_wp2
     go_roundw
     case rel=>
      refine⟨n+1,A7,A7,C8,by repeat (first | apply K_.drew | exact D),λq F=>?_⟩;by_cases e:q=n-1
      .subst e;unfold qU;rw[L.o,M.o,R];simp
      .exact H.o q A7
     case measure=>simp[intOf];omega
  .go_wp2
   go_ret
   exact⟨Says.yes λ⟨j,hi,h⟩=>H.o j A7 h,p.trans f⟩
theorem FT :FW:=λw a c l e f=>yV w a c l e f
def kV(x y:List UInt8):Int:=if Op.bytesLess x y=true then -1 else if x=y then 0 else 1
theorem qA(w:Pv)(x y:Ps):Calls prog 145 #[.string x,.string y] w λe w'=>e= .returned (.a (kV x.toList y.toList))/\w'=w:=by
 cases b:Op.bytesLess x.toList y.toList
 .cases c:(x.toList == y.toList)
  .go_enter func145,ntmps145
   go_wp2
   go_ret
   exact⟨wm (by unfold kV;rw[Pf (by rw[b];simp),Pf (by simpa using c)]),rfl⟩
  .go_enter func145,ntmps145
   go_wp2
   go_ret
   exact⟨wm (by unfold kV;rw[Pf (by rw[b];simp),Pe (by simpa using c)]),rfl⟩
 .go_enter func145,ntmps145
  go_wp2
  go_ret
  exact⟨wm (by unfold kV;rw[Pe b]),rfl⟩
theorem ve(w:Pv)(g:Nat)(d:Qq)(a:Pt)(f:Nat)(b:Ps)(j:g<w.heap.size)(k:w.cell? ⟨g,1,none⟩=some (.func (.func 99) #[] #[])):
  Calls prog 144 #[.agg #[.string d.name,.a d.cost,.slice a d.steps.length f],.string b,.c g] w λe w'=>e= .returned (.a (kV d.name.toList b.toList))/\K_ w w':=by
 go_enter func144,ntmps144
 go_wp2_with fail
 refine (oh _ _ _ _ d.name rfl).mono ?_;rintro e h ⟨rfl,c⟩;have i:K_ w h:=K_.trans F5 c;clear c;go_wp2_with fail
 refine (qA _ d.name b).mono ?_;rintro e l ⟨rfl,rfl⟩;go_wp2
 go_ret
 exact⟨rfl,i⟩
theorem xK{x y:List UInt8}:kV x y<0↔Op.bytesLess x y=true:=by
 unfold kV;by_cases h:Op.bytesLess x y=true
 .rw[Pe h];exact⟨λ_=>h,λ_=>A7⟩
 .rw[Pf h];refine⟨λg=>?_,λg=>Pg g h⟩
  split at g <;> omega
theorem uM{x y:List UInt8}:kV x y=0↔x=y:=by
 unfold kV;by_cases h:Op.bytesLess x y=true
 .rw[Pe h];refine⟨λg=>A7,λg=>?_⟩;rw[g,dV] at h;cases h
 .rw[Pf h];by_cases e:x=y
  .rw[Pe e];exact⟨λ_=>e,λ_=>rfl⟩
  .rw[Pf e];exact⟨λg=>A7,λg=>Pg g e⟩
def Found(l:List Qq)(key:List UInt8)(e:Ending):Prop:=∃(p:Nat) (f:Bool),e= .returned (.tuple #[.a p,.bool f])/\Place l key p/\(f=true↔p<l.length/\nameAt l p=key)
theorem Found.mk{l:List Qq}{a:List UInt8}{e:Ending}(p:Nat)(f:Bool)(b:e= .returned (.tuple #[.a p,.bool f]))(h2:Place l a p)(c:f=true↔p<l.length/\nameAt l p=a):Found l a e:=⟨p,f,b,h2,c⟩
theorem EU(w:Pv)(g:Nat)(a:Pt)(Y:Nat)(l:List Qq)(c:Ps)(hl:l.length<=1048576)(N:dI l)(y:g<w.heap.size)(O:w.cell? ⟨g,1,none⟩=some (.func (.func 99) #[] #[]))(P:bN w a l):
  Calls prog 143 #[.slice a l.length Y,.string c,.func (.func 144) #[] #[.c g]] w
   λe w'=>Found l c.toList e/\K_ w w':=by
 have Q:=Kz N;clear N;go_enter func143,ntmps143
 go_wp2
 go_loopw [9,10] (λB C wr=>∃i j:Nat,B= .a i/\C= .a j/\i<=j/\j<=l.length/\(∀t,t<i->Op.bytesLess (nameAt l t) c.toList=true)/\(∀t,j<=t->t<l.length->Op.bytesLess (nameAt l t) c.toList=false)/\K_ w wr) (λB C _=>(intOf C).toNat-(intOf B).toNat)
 case atStart=>exact⟨0,l.length,rfl,rfl,NS _,NQ _,λt R=>aT R,λt Z S=>A7,K_.refl _⟩
 case round=>
  obtain⟨i,j,rfl,rfl,a4,T,p,q,d⟩:=hrel;have r:=Kz (And.intro p q);clear p q;by_cases a5:(i:Int)<j
  .obtain⟨h,U⟩:∃h:Nat,h= (i+j) / 2:=⟨_,rfl⟩;have V:h<l.length:=A7;have a0:i<=h:=A7;have a6:h<j:=A7;obtain⟨b,o,cs,rfl,hb,f,D,E,rfl,F⟩:=P.kept d h V;obtain⟨k,m⟩:=ai (l.getD h Qq.zero);rw[<-m] at f;have G:=Kz m;clear m F;have s:=f 0 _ rfl;have H:=f 1 _ rfl;have I:=f 2 _ rfl;simp only[OJ] at s;clear f;have a7:((i:Int)+ (j:Int)) / 2= (h:Int):=A7;have HH:=Kz U;clear U;have J:g<wr.heap.size:=NR y d.size;have K:wr.cell? ⟨g,1,none⟩=some (.func (.func 99) #[] #[]):=by rw[d.cell y];exact O
   go_wp2_with fail
   refine (ve _ g k D E c J K).mono ?_;rintro e w1 ⟨rfl,v⟩;have x:nameAt l h=k.name.toList:=by unfold nameAt;rw[<-G.o]
   have z:Hid (kV k.name.toList c.toList<0↔Op.bytesLess (nameAt l h) c.toList=true):=by rw[x];exact xK
   clear s H I x;generalize kV k.name.toList c.toList=W at *;have A:=d.trans v;clear d v;by_cases a1:W<0
   .go_wp2
    go_roundw
    case rel=>
     obtain⟨p,q⟩:=r.o;refine⟨h+1,j,C8,rfl,A7,T,λt R=>?_,q,A⟩;have n:=z.o.1 a1;by_cases e:t=h
     .subst e;exact n
     .exact fC _ _ _ (Q.o t h A7 V) n
    case measure=>simp[intOf];omega
   .go_wp2
    go_roundw
    case rel=>
     obtain⟨p,q⟩:=r.o;refine⟨i,h,rfl,C8,a0,A7,p,λt Z S=>?_,A⟩;have n:Op.bytesLess (nameAt l h) c.toList=false:=by
      cases L:Op.bytesLess (nameAt l h) c.toList
      .rfl
      .have:=z.o.2 L;omega
     by_cases e:t=h
     .subst e;exact n
     .cases L:Op.bytesLess (nameAt l t) c.toList
      .rfl
      .rw[fC _ _ _ (Q.o h t A7 S) L] at n;cases n
    case measure=>simp[intOf];omega
  .have a2:i=j:=A7;subst a2;have X:Hid (Place l c.toList i):=⟨T,r.o.1,r.o.2⟩;clear r;by_cases M:i<l.length
   .obtain⟨b,o,cs,rfl,hb,f,D,E,rfl,F⟩:=P.kept d i M;obtain⟨k,m⟩:=ai (l.getD i Qq.zero);rw[<-m] at f;have G:=Kz m;clear m F;have s:=f 0 _ rfl;have H:=f 1 _ rfl;have I:=f 2 _ rfl;simp only[OJ] at s;clear f;have J:g<wr.heap.size:=NR y d.size;have K:wr.cell? ⟨g,1,none⟩=some (.func (.func 99) #[] #[]):=by rw[d.cell y];exact O
    have a3:(i:Int)<l.length:=A7;go_wp2_with fail
    refine (ve _ g k D E c J K).mono ?_;rintro e w1 ⟨rfl,v⟩;have x:nameAt l i=k.name.toList:=by unfold nameAt;rw[<-G.o]
    have z:Hid (kV k.name.toList c.toList=0↔nameAt l i=c.toList):=by rw[x];exact uM
    clear s H I x;generalize kV k.name.toList c.toList=W at *;have A:=d.trans v;clear d v;go_wp2
    go_ret2
    refine⟨Found.mk i _ rfl X.o ?_,A⟩;rw[<-z.o];simp[M]
   .have a3:¬(i:Int)<l.length:=A7;go_wp2
    go_ret2
    exact⟨Found.mk i false rfl X.o (by simp;intro h;exact Pg h M),d⟩
theorem sV(w:Pv)(a:Pt)(b:Nat)(l:List Qq)(c:Ps)(i:l.length<=1048576)(j:dI l)(k:bN w a l):
  Calls prog 100 #[.agg #[.slice a l.length b,.func (.func 99) #[] #[]],.string c] w
   λe w'=>Found l c.toList e/\K_ w w':=by
 have d:K_ w (w.alloc (.cells #[.slice a l.length b,.func (.func 99) #[] #[]] 100)):=ah _ _;go_enter func100,ntmps100
 go_wp2_with fail
 refine (EU _ w.heap.size a b l c i j A9 A9 (k.kept d)).mono ?_;rintro e t ⟨m,n⟩;obtain⟨p,q,rfl,f,h⟩:=m;have⟨r,s⟩:=aH f h;clear f h;go_wp2
 go_ret2
 exact⟨Found.mk p q rfl r.o s.o,d.trans n⟩
theorem Bn{w a:Pv}{x:Pw}{t:TypeId}(K:K_ (w.alloc (.cells #[x] t)) a):a.cell? ⟨w.heap.size,0,none⟩=some x:=by
 rw[K.cell A9];simp
