import Derived.Test.YtgnkgfjmbmcfcaaGreatDoorKOConcat
import Derived.Laws.EntriesVeiled
set_option maxRecDepth 100000
set_option maxHeartbeats 25600000
namespace Go.Proofs.YtgnkgfjmbmcfcaaGreatDoor
open Go.RowKit Go.Proofs.Tryz
def Hq :Prop:=∀(w:Qy) (a:Qx) (cap:Nat) (l:List Qz),l.length<=maxLen->bJ w a l->
 Calls prog 107 #[.agg #[.slice a l.length cap,.func (.func 111) #[] #[]]] w fun e w'=>Says e (¬jA l)/\K_ w w'
theorem Tryz.GD :(prog.info? 120).map (·.size)=some 2:=by kernel_rfl
theorem Gw(w:Qy)(c:Array QA)(t:TypeId):(w.alloc (.cells c t)).rangeAt w.heap.size 0 c.toList:=fun j v a=>by
 rw[PD,World.cell?_alloc_mark];simpa using a
theorem xW(w:Qy)(a:Qx)(n cap:Nat):
  Calls prog 62 #[.agg #[.slice a n cap]] w fun e w'=>e= .returned (.agg #[.slice a n cap,.func (.func 111) #[] #[]])/\K_ w w':=by
 go_enter func62,ntmps62
 go_wp2
 have b:=Gw (w.alloc (.cells #[.slice a n cap] 37)) #[.slice a n cap,.func (.func 111) #[] #[]] 120;rw[PL] at b;exact Zx [.slice a n cap,.func (.func 111) #[] #[]] _ results62 rfl b underlying120 rfl Tryz.GD rfl ⟨rfl,(ak _ _).alloc _⟩
theorem uK(A:Hid Hq)(w:Qy)(a:Qx)(cap:Nat)(l:List Qz)(h:l.length<=maxLen)(x:∀s∈l,s.Fits)(p:bJ w a l):
  Calls prog 60 #[.agg #[.slice a l.length cap]] w fun e w'=>(∃c,e= .returned (.int .i64 c)/\cu l c)/\K_ w w':=by
 have B:=h;unfold maxLen at B;have q:K_ w (w.alloc (.cells #[.slice a l.length cap] 37)):=ak _ _;by_cases G:(60:Int)<l.length
 ·go_enter func60,ntmps60
  go_wp2
  go_ret
  exact⟨⟨1,rfl,Or.inl ⟨by omega,rfl⟩⟩,q⟩
 ·go_enter func60,ntmps60
  go_wp2_with fail
  refine (zF _ a cap l h x (p.kept q)).mono ?_;rintro e C ⟨b,g⟩;have i:=q.trans g;rcases b.cases with⟨rfl,d⟩|⟨rfl,f⟩
  ·have D:=Kz d;clear d b;go_wp2
   go_ret
   exact⟨⟨2,rfl,Or.inr (Or.inl ⟨by omega,D.o,rfl⟩)⟩,i⟩
  ·have r:=Kz f;clear f b;have y:C.cell? ⟨w.heap.size,0,none⟩=some (.slice a l.length cap):=by rw[g.cell (by simp)];simp
   go_wp2_with fail
   refine (xW _ a l.length cap).mono ?_;rintro e H ⟨rfl,j⟩;have k:=i.trans j;go_wp2_with fail
   refine (aP A _ a cap l h (p.kept k)).mono ?_;rintro e E ⟨b,m⟩;have t:=k.trans m;rcases b.cases with⟨rfl,d⟩|⟨rfl,f⟩
   ·have n:=Kz d;clear d b;have I:E.cell? ⟨w.heap.size,0,none⟩=some (.slice a l.length cap):=by rw[((g.trans j).trans m).cell (by simp)];simp
    clear y g j m i k;go_wp2_with fail
    refine (Br _ a cap l h x (p.kept t)).mono ?_;rintro e J ⟨b,F⟩;have z:=t.trans F;rcases b.cases with⟨rfl,d⟩|⟨rfl,f⟩
    ·have v:=Kz d;clear d b;go_wp2
     go_ret
     exact⟨⟨4,rfl,Or.inr (Or.inr (Or.inr (Or.inl ⟨by omega,r.o,n.o,v.o,rfl⟩)))⟩,z⟩
    ·have v:=Kz f;clear f b;go_wp2
     go_ret
     exact⟨⟨0,rfl,Or.inr (Or.inr (Or.inr (Or.inr ⟨by omega,r.o,n.o,v.o,rfl⟩)))⟩,z⟩
   ·have n:=Kz f;clear f b g j m i k y;go_wp2
    go_ret
    exact⟨⟨3,rfl,Or.inr (Or.inr (Or.inl ⟨by omega,r.o,Classical.not_not.1 n.o,rfl⟩))⟩,t⟩
theorem nN(w:Qy)(x y z:QA)(s:Qw)(b:x= .string s):
  Calls prog 111 #[.agg #[x,y,z]] w fun e w'=>e= .returned (.string s)/\K_ w w':=by
 subst b;go_enter func111,ntmps111
 go_wp2
 go_ret
 exact⟨rfl,ak _ _⟩
theorem Jj{w a:Qy}{x y:QA}{t:TypeId}(K:K_ (w.alloc (.cells #[x,y] t)) a):a.cell? ⟨w.heap.size,0,none⟩=some x/\a.cell? ⟨w.heap.size,1,none⟩=some y:=by
 constructor
 ·rw[K.cell (by simp)];simp
 ·rw[K.cell (by simp)];simp
theorem dK{m:Int}(a: -9223372036854775808<=m)(h2:m<=9223372036854775807):IntKind.i64.wrap m=m:=by
 simp only[IntKind.wrap,IntKind.signed,IntKind.bits]
 first | omega | (simp;omega)
theorem zI(w:Qy)(a:Qx)(cap:Nat)(l:List Qz)(Q:l.length<=maxLen)(C:bJ w a l):
  Calls prog 107 #[.agg #[.slice a l.length cap,.func (.func 111) #[] #[]]] w fun e w'=>Says e (¬jA l)/\K_ w w':=by
 unfold maxLen at Q;have j:K_ w (w.alloc (.cells #[.slice a l.length cap,.func (.func 111) #[] #[]] 120)):=ak _ _;go_enter func107,ntmps107
 go_wp2
 go_loopw [3] (fun g wr=>∃n:Nat,1<=n/\n<=l.length+1/\g= .int .i64 n/\K_ (w.alloc (.cells #[.slice a l.length cap,.func (.func 111) #[] #[]] 120)) wr/\Ie l n) (fun g _=>l.length+2-(intOf g).toNat)
 case atStart=>exact⟨1,by omega,by omega,rfl,K_.refl _,fun k D=>Qi D (by omega)⟩
 case round=>
  obtain⟨n,a0,a1,rfl,d,E⟩:=hrel;have F:=Kz E;clear E;have R:=d.size;simp only[PL] at R;have G:w.heap.size<wr.heap.size:=by omega
  obtain⟨S,T⟩:=Jj d;by_cases U:n<l.length
  ·have H:K_ w wr:=j.trans d;obtain⟨b,o,cs,rfl,f,h,m,p,rfl,V⟩:=C.kept H (n-1) (by omega);obtain⟨b',o',a2,I,a3,i,q,r,rfl,W⟩:=C.kept H n U;simp only[PN,Qt,and_true] at I;obtain⟨rfl,rfl⟩:=I;obtain⟨x,s⟩:=ag ((l.getD (n-1) Qz.zero));obtain⟨y,t⟩:=ag ((l.getD n Qz.zero));rw[<-s] at h;rw[<-t] at i;have J:Hid (l.getD (n-1) Qz.zero=x):=s.symm;have K:Hid (l.getD (n-1+1) Qz.zero=y):=by rw[t,show n-1+1=n by omega];exact rfl
   clear s t V W;have L:=h 0 _ rfl;have X:=h 1 _ rfl;have Y:=h 2 _ rfl;have M:=i 0 _ rfl;have Z:=i 1 _ rfl;have d2:=i 2 _ rfl;simp only[PR] at L M;clear h i;have i0:(0:Int)<=(n:Int)-1:=by omega
   have i1:(n:Int)-1<(l.length:Int):=by omega
   have i2:(n:Int)<(l.length:Int):=by omega
   have i5:(1:Int)<=(n:Int):=by omega
   have i6:(n:Int)<=(l.length:Int):=by omega
   have i7:n<=l.length:=by omega
   have i3:((n:Int)-1).toNat=n-1:=by omega
   have i4:IntKind.i64.wrap ((n:Int)-1)= (n:Int)-1:=dK (by omega) (by omega);have N:∀w',K_ wr w'->(fun w'=>w'.cell? ⟨b,o+ (n-1)*3,none⟩=some (.string x.name)/\w'.cell? ⟨b,o+ (n-1)*3+1,none⟩=some (.int .i64 x.cost)/\w'.cell? ⟨b,o+ (n-1)*3+2,none⟩=some (.slice m x.steps.length p)/\w'.cell? ⟨b,o+n*3,none⟩=some (.string y.name)/\w'.cell? ⟨b,o+n*3+1,none⟩=some (.int .i64 y.cost)/\w'.cell? ⟨b,o+n*3+2,none⟩=some (.slice q y.steps.length r)/\w'.cell? ⟨w.heap.size,0,none⟩=some (.slice (some ⟨b,o,none⟩) l.length cap)/\w'.cell? ⟨w.heap.size,1,none⟩=some (.func (.func 111) #[] #[])) w':=fun w' c=>⟨(K_.cell c f).trans L,(K_.cell c f).trans X,(K_.cell c f).trans Y,(K_.cell c f).trans M,(K_.cell c f).trans Z,(K_.cell c f).trans d2,(K_.cell c G).trans S,(K_.cell c G).trans T⟩
   have O:=Kz N;clear N;cases P:Op.bytesLess x.name.toList y.name.toList
   ·go_wp2
    go_region_held (fun w'=>w'.cell? ⟨b,o+ (n-1)*3,none⟩=some (.string x.name)/\w'.cell? ⟨b,o+ (n-1)*3+1,none⟩=some (.int .i64 x.cost)/\w'.cell? ⟨b,o+ (n-1)*3+2,none⟩=some (.slice m x.steps.length p)/\w'.cell? ⟨b,o+n*3,none⟩=some (.string y.name)/\w'.cell? ⟨b,o+n*3+1,none⟩=some (.int .i64 y.cost)/\w'.cell? ⟨b,o+n*3+2,none⟩=some (.slice q y.steps.length r)/\w'.cell? ⟨w.heap.size,0,none⟩=some (.slice (some ⟨b,o,none⟩) l.length cap)/\w'.cell? ⟨w.heap.size,1,none⟩=some (.func (.func 111) #[] #[])) (exact aP O _ (by repeat (first | apply K_.drew | exact K_.refl _ | assumption))) ((go_at_call 111;refine (nN _ _ _ _ _ rfl).mono ?_;rintro e v ⟨rfl,z⟩;have c:K_ wr v:=K_.trans (by repeat (first | apply K_.drew | exact K_.refl _ | assumption)) z))
    all_goals
     have A:=d.trans c;go_wp2
     go_ret
     exact⟨Says.no fun B=>B ⟨n-1,by omega,by unfold qA;rw[J.o,K.o];exact P⟩,j.trans (by repeat (first | apply K_.drew | exact A))⟩
   ·go_wp2
    go_region_held (fun w'=>w'.cell? ⟨b,o+ (n-1)*3,none⟩=some (.string x.name)/\w'.cell? ⟨b,o+ (n-1)*3+1,none⟩=some (.int .i64 x.cost)/\w'.cell? ⟨b,o+ (n-1)*3+2,none⟩=some (.slice m x.steps.length p)/\w'.cell? ⟨b,o+n*3,none⟩=some (.string y.name)/\w'.cell? ⟨b,o+n*3+1,none⟩=some (.int .i64 y.cost)/\w'.cell? ⟨b,o+n*3+2,none⟩=some (.slice q y.steps.length r)/\w'.cell? ⟨w.heap.size,0,none⟩=some (.slice (some ⟨b,o,none⟩) l.length cap)/\w'.cell? ⟨w.heap.size,1,none⟩=some (.func (.func 111) #[] #[])) (exact aP O _ (by repeat (first | apply K_.drew | exact K_.refl _ | assumption))) ((go_at_call 111;refine (nN _ _ _ _ _ rfl).mono ?_;rintro e v ⟨rfl,z⟩;have c:K_ wr v:=K_.trans (by repeat (first | apply K_.drew | exact K_.refl _ | assumption)) z))
    all_goals
     have A:=d.trans c;go_wp2
     go_roundw
     case rel=>
      refine⟨n+1,by omega,by omega,by go_num,by repeat (first | apply K_.drew | exact A),fun k D=>?_⟩;by_cases e:k=n-1
      ·subst e;unfold qA;rw[J.o,K.o,P];simp
      ·exact F.o k (by omega)
     case measure=>simp[intOf];omega
  ·go_wp2
   go_ret
   exact⟨Says.yes fun ⟨g,hi,B⟩=>F.o g (by omega) B,j.trans d⟩
theorem MK :Hq:=fun w a c l e f=>zI w a c l e f
def oM(x y:List UInt8):Int:=if Op.bytesLess x y=true then -1 else if x=y then 0 else 1
theorem vg(w:Qy)(x y:Qw):Calls prog 148 #[.string x,.string y] w fun e w'=>e= .returned (.int .i64 (oM x.toList y.toList))/\w'=w:=by
 cases a:Op.bytesLess x.toList y.toList
 ·cases b:(x.toList == y.toList)
  ·go_enter func148,ntmps148
   go_wp2
   go_ret
   exact⟨aU (by unfold oM;rw[Qh (by rw[a];simp),Qh (by simpa using b)]),rfl⟩
  ·go_enter func148,ntmps148
   go_wp2
   go_ret
   exact⟨aU (by unfold oM;rw[Qh (by rw[a];simp),Qg (by simpa using b)]),rfl⟩
 ·go_enter func148,ntmps148
  go_wp2
  go_ret
  exact⟨aU (by unfold oM;rw[Qg a]),rfl⟩
theorem vH(w:Qy)(g:Nat)(d:Qz)(a:Qx)(cap:Nat)(b:Qw)(i:g<w.heap.size)(j:w.cell? ⟨g,1,none⟩=some (.func (.func 111) #[] #[])):
  Calls prog 147 #[.agg #[.string d.name,.int .i64 d.cost,.slice a d.steps.length cap],.string b,.pointer (some ⟨g,0,none⟩)] w fun e w'=>e= .returned (.int .i64 (oM d.name.toList b.toList))/\K_ w w':=by
 go_enter func147,ntmps147
 go_wp2_with fail
 refine (nN _ _ _ _ d.name rfl).mono ?_;rintro e f ⟨rfl,c⟩;have h:K_ w f:=K_.trans (by repeat (first | apply K_.alloc | exact K_.refl _)) c;clear c;go_wp2_with fail
 refine (vg _ d.name b).mono ?_;rintro e k ⟨rfl,rfl⟩;go_wp2
 go_ret
 exact⟨rfl,h⟩
theorem Ei{x y:List UInt8}:oM x y<0↔Op.bytesLess x y=true:=by
 unfold oM;by_cases h:Op.bytesLess x y=true
 ·rw[Qg h];exact⟨fun _=>h,fun _=>by omega⟩
 ·rw[Qh h];refine⟨fun g=>?_,fun g=>Qi g h⟩
  split at g <;> omega
theorem AU{x y:List UInt8}:oM x y=0↔x=y:=by
 unfold oM;by_cases h:Op.bytesLess x y=true
 ·rw[Qg h];refine⟨fun g=>by omega,fun g=>?_⟩;rw[g,fO] at h;cases h
 ·rw[Qh h];by_cases e:x=y
  ·rw[Qg e];exact⟨fun _=>e,fun _=>rfl⟩
  ·rw[Qh e];exact⟨fun g=>by omega,fun g=>Qi g e⟩
def Found(l:List Qz)(key:List UInt8)(e:Ending):Prop:=∃(p:Nat) (f:Bool),e= .returned (.tuple #[.int .i64 p,.bool f])/\Place l key p/\(f=true↔p<l.length/\nameAt l p=key)
theorem Found.mk{l:List Qz}{a:List UInt8}{e:Ending}(p:Nat)(f:Bool)(b:e= .returned (.tuple #[.int .i64 p,.bool f]))(h2:Place l a p)(c:f=true↔p<l.length/\nameAt l p=a):Found l a e:=⟨p,f,b,h2,c⟩
theorem EZ(w:Qy)(g:Nat)(a:Qx)(cap:Nat)(l:List Qz)(c:Qw)(hl:l.length<=1048576)(N:mV l)(y:g<w.heap.size)(O:w.cell? ⟨g,1,none⟩=some (.func (.func 111) #[] #[]))(P:bJ w a l):
  Calls prog 146 #[.slice a l.length cap,.string c,.func (.func 147) #[] #[.pointer (some ⟨g,0,none⟩)]] w
   fun e w'=>Found l c.toList e/\K_ w w':=by
 have Q:=Kz N;clear N;go_enter func146,ntmps146
 go_wp2
 go_loopw [9,10] (fun B C wr=>∃i j:Nat,B= .int .i64 i/\C= .int .i64 j/\i<=j/\j<=l.length/\(∀t,t<i->Op.bytesLess (nameAt l t) c.toList=true)/\(∀t,j<=t->t<l.length->Op.bytesLess (nameAt l t) c.toList=false)/\K_ w wr) (fun B C _=>(intOf C).toNat-(intOf B).toNat)
 case atStart=>exact⟨0,l.length,rfl,rfl,OW _,OU _,fun t R=>aB R,fun t Y S=>by omega,K_.refl _⟩
 case round=>
  obtain⟨i,j,rfl,rfl,a3,T,p,q,d⟩:=hrel;have r:=Kz (And.intro p q);clear p q;by_cases a4:(i:Int)<j
  ·obtain⟨h,U⟩:∃h:Nat,h= (i+j) / 2:=⟨_,rfl⟩;have V:h<l.length:=by omega
   have Z:i<=h:=by omega
   have a5:h<j:=by omega
   obtain⟨b,o,cs,rfl,hb,f,D,E,rfl,F⟩:=P.kept d h V;obtain⟨k,m⟩:=ag (l.getD h Qz.zero);rw[<-m] at f;have G:=Kz m;clear m F;have s:=f 0 _ rfl;have H:=f 1 _ rfl;have I:=f 2 _ rfl;simp only[PR] at s;clear f;have a6:((i:Int)+ (j:Int)) / 2= (h:Int):=by omega
   have HH:=Kz U;clear U;have J:g<wr.heap.size:=OV y d.size;have K:wr.cell? ⟨g,1,none⟩=some (.func (.func 111) #[] #[]):=by rw[d.cell y];exact O
   go_wp2_with fail
   refine (vH _ g k D E c J K).mono ?_;rintro e w1 ⟨rfl,v⟩;have x:nameAt l h=k.name.toList:=by unfold nameAt;rw[<-G.o]
   have z:Hid (oM k.name.toList c.toList<0↔Op.bytesLess (nameAt l h) c.toList=true):=by rw[x];exact Ei
   clear s H I x;generalize oM k.name.toList c.toList=W at *;have A:=d.trans v;clear d v;by_cases a0:W<0
   ·go_wp2
    go_roundw
    case rel=>
     obtain⟨p,q⟩:=r.o;refine⟨h+1,j,by go_num,rfl,by omega,T,fun t R=>?_,q,A⟩;have n:=z.o.1 a0;by_cases e:t=h
     ·subst e;exact n
     ·exact eG _ _ _ (Q.o t h (by omega) V) n
    case measure=>simp[intOf];omega
   ·go_wp2
    go_roundw
    case rel=>
     obtain⟨p,q⟩:=r.o;refine⟨i,h,rfl,by go_num,Z,by omega,p,fun t Y S=>?_,A⟩;have n:Op.bytesLess (nameAt l h) c.toList=false:=by
      cases L:Op.bytesLess (nameAt l h) c.toList
      ·rfl
      ·have:=z.o.2 L;omega
     by_cases e:t=h
     ·subst e;exact n
     ·cases L:Op.bytesLess (nameAt l t) c.toList
      ·rfl
      ·rw[eG _ _ _ (Q.o h t (by omega) S) L] at n;cases n
    case measure=>simp[intOf];omega
  ·have a1:i=j:=by omega
   subst a1;have X:Hid (Place l c.toList i):=⟨T,r.o.1,r.o.2⟩;clear r;by_cases M:i<l.length
   ·obtain⟨b,o,cs,rfl,hb,f,D,E,rfl,F⟩:=P.kept d i M;obtain⟨k,m⟩:=ag (l.getD i Qz.zero);rw[<-m] at f;have G:=Kz m;clear m F;have s:=f 0 _ rfl;have H:=f 1 _ rfl;have I:=f 2 _ rfl;simp only[PR] at s;clear f;have J:g<wr.heap.size:=OV y d.size;have K:wr.cell? ⟨g,1,none⟩=some (.func (.func 111) #[] #[]):=by rw[d.cell y];exact O
    have a2:(i:Int)<l.length:=by omega
    go_wp2_with fail
    refine (vH _ g k D E c J K).mono ?_;rintro e w1 ⟨rfl,v⟩;have x:nameAt l i=k.name.toList:=by unfold nameAt;rw[<-G.o]
    have z:Hid (oM k.name.toList c.toList=0↔nameAt l i=c.toList):=by rw[x];exact AU
    clear s H I x;generalize oM k.name.toList c.toList=W at *;have A:=d.trans v;clear d v;go_wp2
    go_ret2
    refine⟨Found.mk i _ rfl X.o ?_,A⟩;rw[<-z.o];simp[M]
   ·have a2:¬(i:Int)<l.length:=by omega
    go_wp2
    go_ret2
    exact⟨Found.mk i false rfl X.o (by simp;intro h;exact Qi h M),d⟩
theorem Lu(w:Qy)(a:Qx)(cap:Nat)(l:List Qz)(b:Qw)(g:l.length<=1048576)(h:mV l)(i:bJ w a l):
  Calls prog 112 #[.agg #[.slice a l.length cap,.func (.func 111) #[] #[]],.string b] w
   fun e w'=>Found l b.toList e/\K_ w w':=by
 have c:K_ w (w.alloc (.cells #[.slice a l.length cap,.func (.func 111) #[] #[]] 120)):=ak _ _;go_enter func112,ntmps112
 go_wp2_with fail
 refine (EZ _ w.heap.size a cap l b g h (by simp) (by simp) (i.kept c)).mono ?_;rintro e r ⟨j,k⟩;obtain⟨p,m,rfl,d,f⟩:=j;have⟨n,q⟩:=aD d f;clear d f;go_wp2
 go_ret2
 exact⟨Found.mk p m rfl n.o q.o,c.trans k⟩
