import Derived.Test.YtjbipapbckajnaaGreatDoorKFImpl2
import Derived.Test.YtjbipapbckajnaaGreatDoorKFLaid
import Derived.Test.YtjbipapbckajnaaGreatDoorKVLead
set_option maxRecDepth 100000
set_option maxHeartbeats 25600000
namespace Go.Proofs.YtjbipapbckajnaaGreatDoor
open Go.RowKit Go.Proofs.Tryz
theorem xZ(w:Pv)(n lo hi:Int)(a:lo<=n)(h2:n<=hi):
  Calls prog 65 #[.a n,.a lo,.a hi] w λe w'=>e= .returned (.bool true)/\w'=w:=by
 go_enter func65,ntmps65
 go_wp2
 go_ret
 exact⟨rfl,rfl⟩
theorem BB(w:Pv)(s:Xj)(b c:Pt)(f i:Nat)(n:Int)(d:s.Fits)(l:0<=n/\n<=20)
  (m:Strs w b s.asks) (p:lI w c s.cases):
  Calls prog 120 #[.agg #[.slice b s.asks.length f,.a s.on,.slice c s.cases.length i,.a s.els,.a s.fall,.bool s.fin,.bool s.bad,.string s.give],.a n] w
   λe w'=>Says e (lH s n)/\K_ w w':=by
 cases a:s.fin
 .rw[<-a];by_cases j:wC s n
  .refine (vN w s b c f i n d l m p a j).mono ?_;rintro e w' ⟨h,k⟩;exact⟨h.congr ⟨λh=>⟨λe=>(by rw[a] at e;cases e),λ_=>⟨j,h⟩⟩,λh=>(h.2 a).2⟩,k⟩
  .refine (yL w s b c f i n d l m p a j).mono ?_;rintro e w' ⟨rfl,k⟩;exact⟨Says.no λh=>j (h.2 a).1,k⟩
 .refine (BC w s.asks.length s.on s.cases.length s.els s.fall s.bad s.give b c f i n d.asks d.cases d.give).mono ?_;rintro e w' ⟨h,k⟩;exact⟨h.congr ⟨λh=>⟨λ_=>h,λe=>(by rw[a] at e;cases e)⟩,λh=>h.1 a⟩,k⟩
theorem fV(w:Pv)(cost:Int)(a:Pt)(i:Nat)(l:List Xj)(G:l.length<=maxLen)(H:∀s∈l,s.Fits)(I:Steps w a l):
  Calls prog 64 #[.agg #[.a cost,.slice a l.length i]] w λe w'=>Says e (gW ⟨cost,l⟩)/\K_ w w':=by
 unfold maxLen at G;have d:K_ w (w.alloc (.cells #[.a cost,.slice a l.length i] 73)):=ah _ _;by_cases J:1<=cost
 .by_cases K:cost<=20
  .by_cases a3:(1:Int)<=l.length
   .by_cases a4:(l.length:Int)<=20
    .go_enter func64,ntmps64
     go_wp2_with (go_at_call 65;refine (xZ _ _ _ _ A7 A7).mono ?_;rintro e w' ⟨rfl,rfl⟩)
     go_loopw [4] (λm wr=>∃k:Nat,k<=l.length/\m= .a k/\K_ (w.alloc (.cells #[.a cost,.slice a l.length i] 73)) wr/\∀j,j<k->lH (l.getD j Xj.zero) l.length) (λm _=>l.length-(intOf m).toNat)
     case atStart=>exact⟨0,NS _,rfl,K_.refl _,λj n=>aT n⟩
     case round=>
      obtain⟨k,hk,rfl,f,x⟩:=hrel;have y:=Kz x;clear x;obtain⟨L,M⟩:=f.rules;have N:=f.size;simp only[OC] at N;by_cases p:k<l.length
      .obtain⟨b,o,cs,rfl,hb,c,O,P,Q,R,rfl,q,r,a1⟩:=(I.kept d).kept f k p;have z:=H (l.getD k Xj.zero) (by simp[List.getD,p]);obtain⟨s,t⟩:=ai (l.getD k Xj.zero);rw[<-t] at c z q r;have A:=Kz t;clear t;have B:=c 0 _ rfl;have S:=c 1 _ rfl;have T:=c 2 _ rfl;have U:=c 3 _ rfl;have V:=c 4 _ rfl;have W:=c 5 _ rfl;have X:=c 6 _ rfl;have Y:=c 7 _ rfl;simp only[OJ] at B;clear c;go_wp2_with fail
       refine (BB _ s O Q P R _ z ⟨A7,A7⟩ q r).mono ?_;rintro e w1 ⟨v,C⟩;have D:=f.trans C;clear B S T U V W X Y q r f C L M;rcases v.cases with⟨rfl,E⟩|⟨rfl,F⟩
       .have Z:=Kz E;clear E v;go_wp2
        go_roundw
        case rel=>
         refine⟨k+1,A7,C8,D,λj n=>?_⟩;by_cases e:j=k
         .subst e;rw[<-A.o];exact Z.o
         .exact bC y j A7
        case measure=>simp[intOf];omega
       .have a0:=Kz F;clear F v;go_wp2
        go_ret
        exact⟨Says.no λh=>a0.o (by rw[A.o];exact h.2.2 k p),d.trans D⟩
      .go_wp2
       go_ret
       exact⟨Says.yes ⟨⟨J,K⟩,⟨by show 1<=l.length;omega,by show l.length<=20;omega⟩,λj (n:j<l.length)=>bC y j A7⟩,d.trans f⟩
    .go_enter func64,ntmps64
     go_wp2
     go_ret
     exact⟨Says.no λh=>by have:=h.2.1.2;simp at this;omega,d⟩
   .go_enter func64,ntmps64
    go_wp2
    go_ret
    exact⟨Says.no λh=>by have:=h.2.1.1;simp at this;omega,d⟩
  .go_enter func64,ntmps64
   go_wp2
   go_ret
   exact⟨Says.no λh=>by have:=h.1.2;simp at this;omega,d⟩
 .go_enter func64,ntmps64
  go_wp2
  go_ret
  exact⟨Says.no λh=>by have:=h.1.1;simp at this;omega,d⟩
theorem toList_inj{a b:Ps}:a.toList=b.toList↔a=b:=by
 refine⟨λh=>Br ?_,λh=>by rw[h]⟩;rw[ByteArray.toList_eq,ByteArray.toList_eq] at h;exact h
theorem pO{a b:Ps}(h:(a.toList == b.toList)=false):a≠b:=λe=>by rw[e] at h;simp at h
theorem gT{a b:Ps}(h:(a.toList == b.toList)=true):a=b:=toList_inj.1 (by simpa using h)
def Qz.zero :Qz:=Qz.fresh ByteArray.empty
def Qz.cells(r:Qz)(xa:Pt)(xc:Nat):List Pw:=[.string r.name,.bool r.over,.bool r.fail,.string r.text,.a r.at',.a r.Zj,.slice xa r.texts.length xc]
theorem Qz.one(r:Qz)(x:Pt)(c:Nat):∀u∈r.cells x c,u.oneCell'=true:=by
 intro u a;simp only[Qz.cells,OL,OM,or_false] at a;rcases a with rfl | rfl | rfl | rfl | rfl | rfl | rfl <;> rfl
def fw(w:Pv)(a:Pt)(l:List Qz):Prop:=
 ∀i,i<l.length->∃b o xa xc,a=some ⟨b,o,none⟩/\b<w.heap.size/\w.rangeAt b (o+i*7) ((l.getD i Qz.zero).cells xa xc)/\Strs w xa (l.getD i Qz.zero).texts/\(xa=none->xc=0)
variable {w : Pv}
theorem fw.kept{w':Pv}{a:Pt}{l:List Qz}(h:fw w a l)(k:K_ w w'):fw w' a l:=by
 intro i c;obtain⟨d,o,e,f,j,b,m,n,p⟩:=h i c;exact⟨d,o,e,f,j,NR b k.size,k.range b m,n.kept k,p⟩
def Qj(l:List Qz):Env:=λn=>l.find? λr=>decide (r.name=n)
variable {n : Ps}
theorem Cs{l:List Qz}(h:∀j,j<l.length->(l.getD j Qz.zero).name≠n):Qj l n=none:=by
 unfold Qj;rw[List.find?_eq_none];intro r c;obtain⟨j,a,e⟩:=Oc c;have:=h j a;simp only[List.getD,NV a,e,Ph] at this;simpa using this
theorem EK :∀{l:List Qz} {k:Nat},k<l.length->(l.getD k Qz.zero).name=n->(∀j,j<k->(l.getD j Qz.zero).name≠n)->Qj l n=some (l.getD k Qz.zero)
 | [],_,hk,_,_=>aT hk
 | r :: l,0,_,h,_=>by
  have a:r.name=n:=h;simp[Qj,List.find?,a,List.getD]
 | r :: l,k+1,hk,h,hj=>by
  have b:r.name≠n:=hj 0 A7;have e:Qj (r :: l) n=Qj l n:=by simp[Qj,List.find?,b]
  rw[e,EK (k:=k) (by simpa using hk) h (λj d=>hj (j+1) A7)]
  rfl
def Ku(l:List Qz)(n:Ps)(r:Int):Prop:=(∃k:Nat,k<l.length/\r= (k:Int)/\Qj l n=some (l.getD k Qz.zero)/\(l.getD k Qz.zero).name=n)\/(r= -1/\Qj l n=none)
def Q_(Kj:List Qq):bR:=λn=>(Kj.find? λd=>decide (d.name=n)).map λd=>⟨d.cost,d.steps⟩
theorem mX{l:List Qq}(h:∀j,j<l.length->(l.getD j Qq.zero).name≠n):Q_ l n=none:=by
 unfold Q_;rw[Option.map_eq_none_iff,List.find?_eq_none];intro r c;obtain⟨j,a,e⟩:=Oc c;have:=h j a;simp only[List.getD,NV a,e,Ph] at this;simpa using this
theorem qQ :∀{l:List Qq} {k:Nat},k<l.length->(l.getD k Qq.zero).name=n->(∀j,j<k->(l.getD j Qq.zero).name≠n)->Q_ l n=some ⟨(l.getD k Qq.zero).cost,(l.getD k Qq.zero).steps⟩
 | [],_,hk,_,_=>aT hk
 | r :: l,0,_,h,_=>by
  have a:r.name=n:=h;simp[Q_,List.find?,a,List.getD]
 | r :: l,k+1,hk,h,hj=>by
  have b:r.name≠n:=hj 0 A7;have e:Q_ (r :: l) n=Q_ l n:=by simp[Q_,List.find?,b]
  rw[e,qQ (k:=k) (by simpa using hk) h (λj d=>hj (j+1) A7)]
  rfl
def Ju(l:List Qq)(n:Ps)(r:Int):Prop:=(∃k:Nat,k<l.length/\r= (k:Int)/\Q_ l n=some ⟨(l.getD k Qq.zero).cost,(l.getD k Qq.zero).steps⟩/\(l.getD k Qq.zero).name=n/\∀j,j<k->(l.getD j Qq.zero).name≠n)\/(r= -1/\Q_ l n=none)
theorem gY{A:eY}:∀{l:List Qq},Q_ l n=some A->∃k,k<l.length/\(l.getD k Qq.zero).name=n/\(∀j,j<k->(l.getD j Qq.zero).name≠n)/\A= ⟨(l.getD k Qq.zero).cost,(l.getD k Qq.zero).steps⟩
 | [],h=>by simp[Q_] at h
 | d :: l,h=>by
  by_cases e:d.name=n
  .refine⟨0,A9,e,λj a=>aT a, ?_⟩;simp[Q_,e] at h;exact h.symm
  .have b:Q_ (d :: l) n=Q_ l n:=by simp[Q_,List.find?,e]
   rw[b] at h;obtain⟨k,c,f,i,m⟩:=gY h;refine⟨k+1,by simpa using c,f,λj a=>?_,m⟩;cases j with
   | zero=>exact e
   | succ j=>exact i j A7
theorem nP{l:List Qq}{k a:Nat}(h:(l.getD k Qq.zero).name=n)(b:∀j,j<k->(l.getD j Qq.zero).name≠n)(g:(l.getD a Qq.zero).name=n)(c:∀j,j<a->(l.getD j Qq.zero).name≠n):k=a:=by
 rcases Pd k a with e|e|e
 .exact Pg h (c k e)
 .exact e
 .exact Pg g (b a e)
def FX(Kj:List Qq)(l:List Qz)(n:Ps)(e:Ending):Prop:=
 ∃(f:Bool) (t:Ps) (ok:Bool),e= .returned (.tuple #[.agg #[.bool f,.string t],.bool ok])/\aP (Q_ Kj) (Qj l) n=if ok=true then some ⟨f,t⟩ else none
structure jb (w:Pv) (kb:Nat) (a:Pt) (n cap:Nat) (d:Pt) (m dc:Nat):Prop where
 row:aB w kb 86 2
 web:w.cell? ⟨kb,0,none⟩=some (.slice a n cap)
 runs:w.cell? ⟨kb,1,none⟩=some (.slice d m dc)
theorem jb.kept{w':Pv}{c n e m f:Nat}{a d:Pt}(h:jb w c a n e d m f)(k:K_ w w'):jb w' c a n e d m f:=
 ⟨h.row.kept k,(k.cell h.row.lt).trans h.web,(k.cell h.row.lt).trans h.runs⟩
theorem iA(w:Pv)(a:Pt)(t:Nat)(l:List Qq)(c:Ps)(A:l.length<=1048576)(v:bN w a l):
  Calls prog 37 #[.agg #[.slice a l.length t],.string c] w λe w'=>(∃r,e= .returned (.a r)/\Ju l c r)/\K_ w w':=by
 have f:K_ w (w.alloc (.cells #[.slice a l.length t] 25)):=ah _ _;go_enter func37,ntmps37
 go_wp2
 go_loop [5] (λi=>∃k:Nat,k<=l.length/\i= .a k/\Hid (∀j,j<k->(l.getD j Qq.zero).name≠c)) (λi=>l.length-(intOf i).toNat)
 case atStart=>exact⟨0,NS _,rfl,Kz λj h=>aT h⟩
 case round=>
  obtain⟨k,B,rfl,d⟩:=hrel;by_cases m:k<l.length
  .obtain⟨b,o,C,rfl,D,n,E,F,rfl,x⟩:=(v.kept f) k m;obtain⟨y,p⟩:=ai (l.getD k Qq.zero);rw[<-p] at n;have z:=n 0 _ rfl;rw[OJ] at z;have q:=Kz p;clear n p x;cases s:(y.name.toList == c.toList)
   .go_wp2
    go_round
    case rel=>
     refine⟨k+1,A7,C8,Kz λj h=>?_⟩;by_cases e:j=k
     .rw[e,<-q.o];exact pO s
     .exact d.o j A7
    case measure=>simp[intOf];omega
   .go_wp2
    go_ret
    exact⟨⟨k,rfl,.inl ⟨k,m,rfl,qQ m (by rw[<-q.o];exact gT s) d.o,(by rw[<-q.o];exact gT s),d.o⟩⟩,f⟩
  .go_wp2
   go_ret
   exact⟨⟨-1,rfl,.inr ⟨rfl,mX λj h=>d.o j A7⟩⟩,f⟩
theorem Jf(w:Pv)(v:Nat)(a:Pt)(n y:Nat)(d:Pt)(z:Nat)(l:List Qz)(c:Ps)(D:l.length<=1048576)(x:jb w v a n y d l.length z)(A:fw w d l):
  Calls prog 86 #[.c v,.string c] w λe w'=>(∃r,e= .returned (.a r)/\Ku l c r)/\w'=w:=by
 have E:=x.runs;have F:=x.row.lt;go_enter func86,ntmps86
 go_wp2
 go_loop [5] (λi=>∃k:Nat,k<=l.length/\i= .a k/\Hid (∀j,j<k->(l.getD j Qz.zero).name≠c)) (λi=>l.length-(intOf i).toNat)
 case atStart=>exact⟨0,NS _,rfl,Kz λj f=>aT f⟩
 case round=>
  obtain⟨k,G,rfl,h⟩:=hrel;by_cases m:k<l.length
  .obtain⟨b,o,H,I,rfl,J,p,_,_⟩:=A k m;obtain⟨B,q⟩:=ai (l.getD k Qz.zero);rw[<-q] at p;have C:=p 0 _ rfl;rw[OJ] at C;have s:=Kz q;clear p q;cases t:(B.name.toList == c.toList)
   .go_wp2
    go_round
    case rel=>
     refine⟨k+1,A7,C8,Kz λj f=>?_⟩;by_cases e:j=k
     .rw[e,<-s.o];exact pO t
     .exact h.o j A7
    case measure=>simp[intOf];omega
   .go_wp2
    go_ret
    exact⟨⟨k,rfl,.inl ⟨k,m,rfl,EK m (by rw[<-s.o];exact gT t) h.o,by rw[<-s.o];exact gT t⟩⟩,rfl⟩
  .go_wp2
   go_ret
   exact⟨⟨-1,rfl,.inr ⟨rfl,Cs λj f=>h.o j A7⟩⟩,rfl⟩
theorem oq(w:Pv)(t:Pt)(v x:Nat)(d:Pt)(y:Nat)(l:List Qz)(a:Ps)(C:l.length<=1048576)(z:fw w d l):
  Calls prog 29 #[.agg #[.slice t v x,.slice d l.length y],.string a] w λe w'=>(∃r,e= .returned (.a r)/\Ku l a r)/\K_ w w':=by
 have c:K_ w (w.alloc (.cells #[.slice t v x,.slice d l.length y] 32)):=ah _ _;go_enter func29,ntmps29
 go_wp2
 go_loop [5] (λi=>∃k:Nat,k<=l.length/\i= .a k/\Hid (∀j,j<k->(l.getD j Qz.zero).name≠a)) (λi=>l.length-(intOf i).toNat)
 case atStart=>exact⟨0,NS _,rfl,Kz λj f=>aT f⟩
 case round=>
  obtain⟨k,D,rfl,h⟩:=hrel;by_cases m:k<l.length
  .obtain⟨b,o,E,F,rfl,G,n,_,_⟩:=(z.kept c) k m;obtain⟨A,p⟩:=ai (l.getD k Qz.zero);rw[<-p] at n;have B:=n 0 _ rfl;rw[OJ] at B;have q:=Kz p;clear n p;cases s:(A.name.toList == a.toList)
   .go_wp2
    go_round
    case rel=>
     refine⟨k+1,A7,C8,Kz λj f=>?_⟩;by_cases e:j=k
     .rw[e,<-q.o];exact pO s
     .exact h.o j A7
    case measure=>simp[intOf];omega
   .go_wp2
    go_ret
    exact⟨⟨k,rfl,.inl ⟨k,m,rfl,EK m (by rw[<-q.o];exact gT s) h.o,by rw[<-q.o];exact gT s⟩⟩,c⟩
  .go_wp2
   go_ret
   exact⟨⟨-1,rfl,.inr ⟨rfl,Cs λj f=>h.o j A7⟩⟩,c⟩
theorem Tryz.jf :(prog.info? 80).map (·.size)=some 2:=C9
theorem bI{P:Program}{fn:Func}{R:Ending->Pv->Prop}{a:Act}{p q:Tmp}{c:TypeId}{b:Nat}(cs:List Pw)(d:TypeDesc)(v:Pw)(h:fn.results= #[.cell p c,.tmp q])
 (e:a.tmps.getD p undef= .c b) (f:w.rangeAt b 0 cs) (i:P.underlying c=some d) (j:d.isRow=true) (hi:(P.info? c).map (·.size)=some cs.length)
 (k:a.tmps.getD q undef=v) (l:a.defers=[]) (m:R (.returned (.tuple #[.agg cs.toArray,v])) w):bodyPost P fn R .ret a w:=by
 refine bodyPost_ret ?_ l m;have n:a.tmps[p]?.getD undef= .c b:=by simpa using e
 have r:a.tmps[q]?.getD undef=v:=by simpa using k
 simp only[results,h];simp[n,r,asAddr,run_loadVar_mid w b 0 c cs d f i j hi]
theorem K_.mG{w1:Pv}(k:K_ w w1){i:Nat}(v:Pw):K_ w (w1.setCell ⟨w.heap.size,i,none⟩ v):=Below.setCell k (p:=⟨w.heap.size,i,none⟩) (NQ _) v
theorem Zk{b c o p:Nat}(h:b≠c){v:Pw}:(w.setCell ⟨c,p,none⟩ v).cell? ⟨b,o,none⟩=w.cell? ⟨b,o,none⟩:=Ol _ _ _ _ (λe=>h (congrArg Addr.block e).symm)
def Jv(Kj:List Qq)(l:List Qz)(n:Ps)(e:Ending):Prop:=
 ∃(f:Bool) (t:Ps) (ok:Bool),e= .returned (.tuple #[.agg #[.bool f,.string t],.bool ok])/\aP (Q_ Kj) (Qj l) n= (if ok=true then some ⟨f,t⟩ else none)/\(ok=false->f=false/\t= ⟨#[]⟩)
theorem vJ(w:Pv)(x:Nat)(a:Pt)(G:Nat)(s:List Qq)(d:Pt)(H:Nat)(l:List Qz)(n:Ps)(a0:s.length<=1048576)(a1:l.length<=1048576)(hn:n.size<=1000)(c:jb w x a s.length G d l.length H)(hN:bN w a s)(N:fw w d l):
  Calls prog 36 #[.c x,.string n] w λe w'=>Jv s l n e/\K_ w w':=by
 have f:K_ w (w.alloc (.cells #[.bool false,.string ⟨#[]⟩] 80)):=ah _ _;have b0:=c.row.lt;have q0:=(c.kept f).web;have I:=(c.kept f).row.lt;go_enter func36,ntmps36
 go_wp2_with fail
 refine (iA _ a G s n a0 (hN.kept f)).mono ?_;rintro e b ⟨⟨b1,rfl,hr⟩,k⟩;have p:Hid (aB b w.heap.size 80 2):=(aB.made w #[.bool false,.string ⟨#[]⟩] 80).kept k;obtain⟨⟨_,O⟩,P⟩:=p.o.row.at (i:=0) A7;obtain⟨⟨_,Q⟩,R⟩:=p.o.row.at (i:=1) A7;have S:=p.o.lt;clear q0 I;rcases hr with⟨a2,hk,rfl,z,_⟩|⟨rfl,z⟩
 .have b2:¬(a2:Int)<0:=A7;have J:=(c.kept f).kept k;have B:=(N.kept f).kept k;have A:=Kz z;clear z;go_wp2_with fail
  refine (Jf b x a s.length G d H l n a1 J B).mono ?_;rintro e w2 ⟨⟨r2,rfl,a3⟩,T⟩;rw[T];clear T w2;rcases a3 with⟨q,U,rfl,t,_⟩|⟨rfl,t⟩
  .have b3:¬(q:Int)<0:=A7;have b4:(q:Int)<(l.length:Int):=A7;obtain⟨y,K⟩:=ai (l.getD q Qz.zero);rw[<-K] at t;obtain⟨C,o,_,_,rfl,b5,_⟩:=N q U;obtain⟨b6,o1,xa,xc,V,hb,v,_,_⟩:=B q U;simp only[OE,Po,and_true] at V;obtain⟨rfl,rfl⟩:=V;rw[<-K] at v;have W:=v 1 _ rfl;have c2:=v 2 _ rfl;have c3:=v 3 _ rfl;have I:=J.runs;have qz:=J.row.lt;have⟨D,HC⟩:=aH t v;clear K v t B;cases E:y.over
   .rw[E] at W;go_wp2_with fail
    have r:=NU b w.heap.size 0 [.bool false,.string ⟨#[]⟩] (p.o.row.there (o:=0) (m:=2) (NQ _));refine bI [.bool false,.string ⟨#[]⟩] _ (.bool false) results36 rfl r underlying80 rfl Tryz.jf rfl rfl ?_;exact⟨⟨false,⟨#[]⟩,false,rfl,by unfold aP;rw[A.o,D.o];simp[E],λ_=>⟨rfl,rfl⟩⟩,((f.trans k).mG _).mG _⟩
   .rw[E] at W;go_upto_region 6 with fail
    refine Qx.region C9 (λw'=>w'.cell? ⟨x,1,none⟩=some (.slice (some ⟨C,o,none⟩) l.length H)/\w'.cell? ⟨C,o+q*7+2,none⟩=some (.bool y.fail)/\w'.cell? ⟨C,o+q*7+3,none⟩=some (.string y.text)) 18 ⟨I,c2,c3⟩ (λj=>?_);have a4:b.drew.cell? ⟨w.heap.size,0,none⟩=some _:=O;have a5:b.drew.cell? ⟨w.heap.size,1,none⟩=some _:=Q;have a6:b.drew.frozen? ⟨w.heap.size,0,none⟩=false:=P;have a7:b.drew.frozen? ⟨w.heap.size,1,none⟩=false:=R;have a8:w.heap.size<b.drew.heap.size:=S;have L:K_ b b.drew:=bD _;have X:=Kz (p.o.kept L);have Y:=k.trans L;generalize a9:b.drew=wd at j a4 a5 a6 a7 a8 X Y⊢;clear a9 L O Q P R S;refine ax 0 j ?_;refine ax 4 j ?_;refine ax 8 j ?_;refine ax 12 j ?_;refine ae 16 j ?_;have Z:x≠w.heap.size:=A7;have F:C≠w.heap.size:=A7;refine aj 17 (λM c=>?_);go_simp
    refine af c (λ_=>⟨by rw[Zk Z,Zk Z];exact j.1,by rw[Zk F,Zk F];exact j.2.1,by rw[Zk F,Zk F];exact j.2.2⟩) ?_;clear c M;refine aj 18 (λM c=>?_);go_simp
    refine af c (λh=>Pg rfl h) ?_;clear c M;refine aG ?_;go_wp2_with fail
    have r:=NU wd w.heap.size 0 [.bool y.fail,.string y.text] (X.o.row.there (o:=0) (m:=2) (NQ _));refine bI [.bool y.fail,.string y.text] _ (.bool true) results36 rfl r underlying80 rfl Tryz.jf rfl rfl ?_;exact⟨⟨y.fail,y.text,true,rfl,by unfold aP;rw[A.o,D.o];simp[E],λh=>by cases h⟩,((f.trans Y).mG _).mG _⟩
  .have D:=Kz t;clear t B;go_wp2_with fail
   have r:=NU b w.heap.size 0 [.bool false,.string ⟨#[]⟩] (p.o.row.there (o:=0) (m:=2) (NQ _));refine bI [.bool false,.string ⟨#[]⟩] _ (.bool false) results36 rfl r underlying80 rfl Tryz.jf rfl rfl ?_;exact⟨⟨false,⟨#[]⟩,false,rfl,by unfold aP;rw[A.o,D.o];rfl,λ_=>⟨rfl,rfl⟩⟩,((f.trans k).mG _).mG _⟩
 .have A:=Kz z;clear z;have f3:¬9223372036854775807<3+n.size:=A7;go_wp2_with fail
  have r:=NU b w.heap.size 0 [.bool true,.string ((⟨#[110,111,32]⟩:Ps)++n)] (p.o.row.there (o:=0) (m:=2) (NQ _));refine bI [.bool true,.string ((⟨#[110,111,32]⟩:Ps)++n)] _ (.bool true) results36 rfl r underlying80 rfl Tryz.jf rfl rfl ?_;exact⟨⟨true,rY n,true,rfl,by unfold aP;rw[A.o];rfl,λh=>by cases h⟩,((f.trans k).mG _).mG _⟩
theorem Er(w:Pv)(c:Nat)(a:Pt)(f:Nat)(b:List Qq)(d:Pt)(h:Nat)(l:List Qz)(n:Ps)(i:b.length<=1048576)(j:l.length<=1048576)(k:n.size<=1000)(m:jb w c a b.length f d l.length h)(p:bN w a b)(q:fw w d l):
  Calls prog 36 #[.c c,.string n] w λe w'=>FX b l n e/\K_ w w':=by
 refine (vJ w c a f b d h l n i j k m p q).mono ?_;rintro e w' ⟨⟨r,t,s,v,x,_⟩,y⟩;exact⟨⟨r,t,s,v,x⟩,y⟩
def aR(a b:Ps):Prop:=Op.bytesLess a.toList b.toList=true
theorem aQ(a:Ps):¬aR a a:=λh=>by unfold aR at h;rw[dV] at h;cases h
theorem fe{a b c:Ps}(h:aR a b)(g:aR b c):aR a c:=fC _ _ _ h g
theorem dW{a b:Ps}(h:aR a b):¬aR b a:=λg=>aQ a (fe h g)
theorem dU{a b:Ps}(h:aR a b):a≠b:=λe=>by rw[e] at h;exact aQ b h
theorem dJ(a b:Ps):aR a b\/a=b\/aR b a:=by
 unfold aR;cases h:Op.bytesLess a.toList b.toList with
 | true=>exact .inl rfl
 | false=>
  by_cases e:a=b
  .exact .inr (.inl e)
  .exact .inr (.inr (rV _ _ h λc=>e (toList_inj.1 c)))
def dz(l:List Qz):Prop:=l.Pairwise λx y=>aR x.name y.name
variable {l : List Qz} {r : Qz}
theorem aN{n:Ps}(h:Qj l n=some r):r∈l/\r.name=n:=by
 unfold Qj at h;exact⟨List.mem_of_find?_eq_some h,by simpa using List.find?_some h⟩
theorem bE(h:dz l)(a:r∈l):Qj l r.name=some r:=by
 induction l with
 | nil=>cases a
 | cons x l ih=>
  rw[dz,Pn] at h;rcases OL.1 a with rfl|a
  .simp[Qj]
  .have c:x.name≠r.name:=dU (h.1 r a);have e:Qj (x :: l) r.name=Qj l r.name:=by simp[Qj,List.find?,c]
   rw[e];exact ih h.2 a
theorem Gf :∀{l l':List Qz},dz l->dz l'->(∀r,r∈l↔r∈l')->l=l'
 | [],[],_,_,_=>rfl
 | [],y :: ys,_,_,h=>by have:=(h y).2 A9;cases this
 | x :: xs,[],_,_,h=>by have:=(h x).1 A9;cases this
 | x :: xs,y :: ys,hl,hl',h=>by
  rw[dz,Pn] at hl hl';have c:x=y:=by
   rcases OL.1 ((h x).1 A9) with e|d
   .exact e
   .rcases OL.1 ((h y).2 A9) with e|f
    .exact e.symm
    .exact Pg (hl.1 y f) (dW (hl'.1 x d))
  subst c;rw[Gf hl.2 hl'.2 λr=>?_];constructor
  .intro a;rcases OL.1 ((h r).1 (Oi _ a)) with rfl|b
   .exact Pg (hl.1 r a) (aQ _)
   .exact b
  .intro a;rcases OL.1 ((h r).2 (Oi _ a)) with rfl|b
   .exact Pg (hl'.1 r a) (aQ _)
   .exact b
theorem yF{l':List Qz}(h:dz l)(c:dz l')(e:Qj l=Qj l'):l=l':=by
 refine Gf h c λr=>⟨λa=>?_,λa=>?_⟩
 .have:=bE h a;rw[e] at this;exact (aN this).1
 .have:=bE c a;rw[<-e] at this;exact (aN this).1
theorem qO(d:∀x∈l,∀y∈l,x.name=y.name->x=y){n:Ps}:Qj l n=some r↔r∈l/\r.name=n:=by
 refine⟨aN,λ⟨b,c⟩=>?_⟩;cases h:Qj l n with
 | none=>
  unfold Qj at h;rw[List.find?_eq_none] at h;exact Pg (by simpa using c) (h r b)
 | some x=>
  obtain⟨e,f⟩:=aN h;rw[d x e r b (f.trans c.symm)]
theorem sQ(h:dz l):∀x∈l,∀y∈l,x.name=y.name->x=y:=λx b y c d=>by
 have a:=bE h b;have e:=bE h c;rw[d,e] at a;exact (OQ a).symm
def dF(l:List Qz)(r:Qz):List Qz:=(l.filter λx=>Op.bytesLess x.name.toList r.name.toList)++r :: l.filter λx=>Op.bytesLess r.name.toList x.name.toList
theorem lC(h:dz l):dz (dF l r):=by
 unfold dF;rw[dz,Ou];refine⟨h.filter _, ?_,λx e y a=>?_⟩
 .rw[Pn];exact⟨λy a=>(List.mem_filter.1 a).2,h.filter _⟩
 .have c:aR x.name r.name:=(List.mem_filter.1 e).2;rcases OL.1 a with rfl|a
  .exact c
  .exact fe c (List.mem_filter.1 a).2
theorem pI{x:Qz}:x∈dF l r↔x=r\/(x∈l/\x.name≠r.name):=by
 unfold dF;rw[N_,OL,List.mem_filter,List.mem_filter];constructor
 .rintro (⟨a,b⟩|h|⟨a,b⟩)
  .exact .inr ⟨a,dU b⟩
  .exact .inl h
  .exact .inr ⟨a,Ne.symm (dU b)⟩
 .rintro (h|⟨a,b⟩)
  .exact .inr (.inl h)
  .rcases dJ x.name r.name with c|c|c
   .exact .inl ⟨a,c⟩
   .exact Pg c b
   .exact .inr (.inr ⟨a,c⟩)
theorem ik(h:dz l)(n:Ps):Qj (dF l r) n=if n=r.name then some r else Qj l n:=by
 have c:=sQ (lC (r:=r) h);by_cases e:n=r.name
 .rw[Pe e];exact (qO c).2 ⟨(pI).2 (.inl rfl),e.symm⟩
 .rw[Pf e];cases d:Qj l n with
  | some x=>
   obtain⟨b,a⟩:=aN d;exact (qO c).2 ⟨(pI).2 (.inr ⟨b,λf=>e (a.symm.trans f)⟩),a⟩
  | none=>
   cases i:Qj (dF l r) n with
   | none=>rfl
   | some x=>
    obtain⟨b,a⟩:=aN i;rcases (pI).1 b with rfl|⟨j,_⟩
    .exact Pg a.symm e
    .have:=(qO (sQ h)).2 ⟨j,a⟩;rw[d] at this;cases this
theorem kG :∀(l t:List Qz),dz t->(∀x∈l,∀y∈l,x.name=y.name->x=y)->dz (l.foldl dF t)/\∀n,Qj (l.foldl dF t) n=match Qj l n with | some r=>some r | none=>Qj t n
 | [],t,h,_=>⟨h,λn=>rfl⟩
 | x :: l,t,h,hd=>by
  obtain⟨c,d⟩:=kG l (dF t x) (lC h) (λa f i j=>hd a (Oi _ f) i (Oi _ j));refine⟨c,λn=>?_⟩;show Qj (l.foldl dF (dF t x)) n=_;rw[d n];by_cases e:x.name=n
  .have b:Qj (x :: l) n=some x:=by simp[Qj,e]
   rw[b];cases k:Qj l n with
   | some r=>
    obtain⟨m,p⟩:=aN k;simp only;rw[hd r (Oi _ m) x A9 (p.trans e.symm)]
   | none=>
    simp only;rw[ik h,Pe e.symm]
  .have b:Qj (x :: l) n=Qj l n:=by simp[Qj,List.find?,e]
   rw[b];cases Qj l n with
   | some r=>rfl
   | none=>
    simp only;rw[ik h,Pf (Ne.symm e)]
def rU(r:Qz)(p:List Qz×Bool)(x:Qz):List Qz×Bool:=if p.2=false/\Op.bytesLess x.name.toList r.name.toList=false then (p.1++ [r],true) else p
def ze(r:Qz)(p:List Qz×Bool)(x:Qz):List Qz×Bool:=if (x.name.toList == r.name.toList)=true then p else (p.1++ [x],p.2)
def sH(r:Qz)(p:List Qz×Bool)(x:Qz):List Qz×Bool:=ze r (rU r p x) x
def uC(l:List Qz)(r:Qz)(k:Nat):List Qz×Bool:=(l.take k).foldl (sH r) ([],false)
theorem GQ(l:List Qz)(r:Qz):uC l r 0= ([],false):=rfl
theorem Ap{k:Nat}(h:k<l.length):uC l r (k+1)=sH r (uC l r k) (l.getD k Qz.zero):=by
 unfold uC;rw[NY h,List.foldl_append];simp[List.getD,h]
theorem Jy(r:Qz)(p:List Qz×Bool)(x:Qz):(sH r p x).1.length+ (if (sH r p x).2=true then 0 else 1)<=p.1.length+ (if p.2=true then 0 else 1)+1:=by
 unfold sH ze rU;obtain⟨o,d⟩:=p;cases d <;> cases Op.bytesLess x.name.toList r.name.toList <;> cases (x.name.toList == r.name.toList) <;> simp <;> omega
theorem CY{l:List Qz}{r:Qz}:∀{k:Nat},k<=l.length->(uC l r k).1.length+ (if (uC l r k).2=true then 0 else 1)<=k+1
 | 0,_=>by rw[GQ];simp
 | k+1,h=>by
  have a:=CY (l:=l) (r:=r) (k:=k) A7;have b:=Jy r (uC l r k) (l.getD k Qz.zero);rw[Ap A7];omega
def Bl(r:Qz)(p:List Qz×Bool):List Qz:=if p.2=true then p.1 else p.1++ [r]
theorem DU(r:Qz):∀(l acc:List Qz),l.foldl (sH r) (acc,true)= (acc++l.filter (λx=>!(x.name.toList == r.name.toList)),true)
 | [],acc=>A9
 | x :: l,acc=>by
  rw[List.foldl_cons];have e:sH r (acc,true) x= (acc++ (if (x.name.toList == r.name.toList)=true then [] else [x]),true):=by
   unfold sH ze rU;cases (x.name.toList == r.name.toList) <;> simp
  rw[e,DU r l];cases h:(x.name.toList == r.name.toList) <;> simp[h]
theorem CR(r:Qz):∀(l acc:List Qz),dz l->Bl r (l.foldl (sH r) (acc,false))=acc++dF l r
 | [],acc,_=>by simp[Bl,dF]
 | x :: l,acc,i=>by
  have j:=i;rw[dz,Pn] at j;rw[List.foldl_cons];cases e:Op.bytesLess x.name.toList r.name.toList with
  | true=>
   have n:(x.name.toList == r.name.toList)=false:=by
    rw[beq_eq_false_iff_ne];intro f;exact dU (a:=x.name) (b:=r.name) e (toList_inj.1 f)
   have p:Op.bytesLess r.name.toList x.name.toList=false:=by
    cases k:Op.bytesLess r.name.toList x.name.toList with
    | false=>rfl
    | true=>exact Pg k (dW (a:=x.name) (b:=r.name) e)
   have f:sH r (acc,false) x= (acc++ [x],false):=by simp[sH,ze,rU,e,n]
   rw[f,CR r l _ j.2];simp[dF,e,p]
  | false=>
   have m:∀y∈x :: l,Op.bytesLess y.name.toList r.name.toList=false:=by
    intro y h;rcases OL.1 h with rfl|h
    .exact e
    .cases k:Op.bytesLess y.name.toList r.name.toList with
     | false=>rfl
     | true=>
      have:=fe (j.1 y h) (show aR y.name r.name from k);unfold aR at this;rw[e] at this;cases this
   have q:(x :: l).filter (λy=>Op.bytesLess y.name.toList r.name.toList)=[]:=by
    rw[List.filter_eq_nil_iff];intro y h;rw[m y h];simp
   have s:(x :: l).filter (λy=>Op.bytesLess r.name.toList y.name.toList)= (x :: l).filter (λy=>!(y.name.toList == r.name.toList)):=by
    refine List.filter_congr λy h=>?_
    rcases dJ r.name y.name with d|d|d
    .have t:(y.name.toList == r.name.toList)=false:=by
      rw[beq_eq_false_iff_ne];intro f;exact dU d (toList_inj.1 f).symm
     unfold aR at d;rw[d,t]
     rfl
    .rw[d,dV];simp
    .unfold aR at d;rw[m y h] at d;cases d
   have f:sH r (acc,false) x= (acc++ [r]++ (if (x.name.toList == r.name.toList)=true then [] else [x]),true):=by
    unfold sH ze rU;cases (x.name.toList == r.name.toList) <;> simp[e]
   rw[f,DU];unfold Bl dF;rw[q,s];cases i:(x.name.toList == r.name.toList) <;> simp[i]
theorem Li(h:dz l):Bl r (uC l r l.length)=dF l r:=by
 unfold uC;rw[Ox,CR r l [] h,List.nil_append]
def eX(l:List Ps):Prop:=1<=l.length/\l.length<=10/\tV l
theorem LK(w:Pv)(n lo hi:Int)(h:n<lo\/hi<n):
  Calls prog 65 #[.a n,.a lo,.a hi] w λe w'=>e= .returned (.bool false)/\w'=w:=by
 by_cases b:lo<=n
 .have c:¬n<=hi:=A7;go_enter func65,ntmps65
  go_wp2
  go_ret
  exact⟨rfl,rfl⟩
 .go_enter func65,ntmps65
  go_wp2
  go_ret
  exact⟨rfl,rfl⟩
theorem yZ(w:Pv)(a:Pt)(d:Nat)(l:List Ps)(k:l.length<=maxLen)(m:∀s∈l,s.size<=maxLen)(n:Strs w a l):
  Calls prog 26 #[.slice a l.length d] w λe w'=>Says e (eX l)/\K_ w w':=by
 by_cases h:1<=l.length/\l.length<=10
 .go_enter func26,ntmps26
  go_wp2_with (go_at_call 65;refine (xZ _ _ _ _ A7 A7).mono ?_;rintro e w' ⟨rfl,rfl⟩)
  refine (lZ _ a d l k m n).mono ?_;rintro e p ⟨b,f⟩;rcases b.cases with⟨rfl,i⟩|⟨rfl,j⟩
  .have c:=Kz i;clear i b;go_wp2
   go_ret
   exact⟨Says.yes ⟨h.1,h.2,c.o⟩,f⟩
  .have c:=Kz j;clear j b;go_wp2
   go_ret
   exact⟨Says.no λg=>c.o g.2.2,f⟩
 .go_enter func26,ntmps26
  go_wp2_with (go_at_call 65;refine (LK _ _ _ _ A7).mono ?_;rintro e w' ⟨rfl,rfl⟩)
  go_ret
  exact⟨Says.no λg=>h ⟨g.1,g.2.1⟩,K_.refl _⟩
theorem pu(w:Pv)(a:Pt)(p:Nat)(l:List Ps)(A:l.length<=maxLen)(S:l.length<=p)(H:∀s∈l,s.size<=maxLen)(B:Strs w a l):
  Calls prog 45 #[.slice a l.length p] w λe w'=>Says e (eX l)/\K_ w w':=by
 have I:=A;unfold maxLen at I;by_cases J:(l.length:Int)<1
 .go_enter func45,ntmps45
  go_wp2
  go_ret
  exact⟨Says.no λg=>by have:=g.1;omega,K_.refl _⟩
 .by_cases K:(10:Int)<l.length
  .go_enter func45,ntmps45
   go_wp2
   go_ret
   exact⟨Says.no λg=>by have:=g.2.1;omega,K_.refl _⟩
  .have L:decide ((l.length:Int)<1)=false:=by simpa using J
   have M:decide ((10:Int)<l.length)=false:=by simpa using K
   go_enter func45,ntmps45
   go_wp2
   clear L M;go_loopw [15] (λi wr=>∃k:Nat,k<=l.length/\i= .a k/\K_ w wr/\∀j,j<k->CF l j) (λi _=>l.length-(intOf i).toNat)
   case atStart=>exact⟨0,NS _,rfl,K_.refl _,λj v=>aT v⟩
   case round=>
    obtain⟨k,T,rfl,d,C⟩:=hrel;have D:=Kz C;clear C;by_cases q:k<l.length
    .obtain⟨b,o,rfl,N,E⟩:=B.kept d k q;have F:(l.getD k ByteArray.empty).size<=maxLen:=H _ (by simp[List.getD,q]);obtain⟨G,x⟩:=ai (l.getD k ByteArray.empty);rw[<-x] at E F;have r:=Kz x;clear x;go_wp2_with fail
     refine (mP _ G F).mono ?_;rintro e U ⟨c,y⟩;have t:=d.trans y;have z:=B.kept t;clear E N;rcases c.cases with⟨rfl,f⟩|⟨rfl,h⟩
     .have O:=Kz f;clear f c d y;have V:k<=p:=A7;go_wp2_with fail
      refine (rq _ _ p k l G A A7 z).mono ?_;rintro e W ⟨c,rfl⟩;rcases c.cases with⟨rfl,f⟩|⟨rfl,h⟩
      .have m:=Kz f;clear f c z;go_wp2
       go_ret
       exact⟨Says.no λn=>by obtain⟨i,P,e⟩:=m.o;exact (n.2.2 k q).2 i P (by rw[e,r.o]),t⟩
      .have m:=Kz h;clear h c z;go_wp2
       go_roundw
       case rel=>
        refine⟨k+1,A7,C8,t,λj v=>?_⟩;by_cases e:j=k
        .subst e;exact⟨by rw[<-r.o];exact O.o,λQ R n=>m.o ⟨Q,R,by rw[n,r.o]⟩⟩
        .exact bC D j A7
       case measure=>simp[intOf];omega
     .have m:=Kz h;clear h c d y;go_wp2
      go_ret
      exact⟨Says.no λn=>m.o (by rw[r.o];exact (n.2.2 k q).1),t⟩
    .go_wp2
     go_ret
     exact⟨Says.yes ⟨A7,A7,λj v=>bC D j A7⟩,d⟩
section
variable (E : Ps -> Ps -> Prop)
inductive RW (g:Ps):Nat->Ps->Prop
 | one {a:Ps} (h:E a g):RW g 1 a
 | step {n:Nat} {a b:Ps} (h:E a b) (hb:aR g b) (r:RW g n b):RW g (n+1) a
def eF(g:Ps)(n:Nat)(a:Ps):Prop:=RW E g n a/\∀m,m<n->¬RW E g m a
def iC(p:Ps->Prop)(x:Ps):Prop:=p x/\∀y,p y->¬aR y x
inductive mE (g:Ps):Nat->Ps->List Ps->Prop
 | stop (a:Ps):mE g 1 a [a]
 | step {n:Nat} {a x:Ps} {l:List Ps} (h:iC (λy=>E a y/\aR g y/\eF E g n y) x) (r:mE g n x l):mE g (n+1) a (a :: l)
inductive ng (g:Ps):Nat->Ps->List Ps->Prop
 | stop (a:Ps):ng g 1 a [a]
 | step {n:Nat} {a x:Ps} {l:List Ps} (h:iC (λy=>E a y/\Far E g n y) x) (r:ng g n x l):ng g (n+1) a (a :: l)
def ou(l:List Ps):Prop:=
 ((∀x n,1<=n->¬aV E n x x)/\l=[])\/∃m t,1<=m/\(∀x n,1<=n->aV E n x x->m<=n)/\iC (λx=>aV E m x x) t/\ng E t m t l
end
variable {a g : Ps} {n : Nat}
section
variable {E : Ps -> Ps -> Prop}
theorem iC.unique{p q:Ps->Prop}(c:∀x,p x↔q x){x y:Ps}(h:iC p x)(k:iC q y):x=y:=by
 rcases dJ x y with e|e|e
 .exact Pg e (k.2 x ((c x).1 h.1))
 .exact e
 .exact Pg e (h.2 y ((c y).2 k.1))
theorem iC.iff{p q:Ps->Prop}(a:∀x,p x↔q x){x:Ps}(h:iC p x):iC q x:=⟨(a x).1 h.1,λy d=>h.2 y ((a y).2 d)⟩
theorem RW.pos(h:RW E g n a):1<=n:=by cases h <;> omega
theorem RW.walk(h:RW E g n a):aV E n a g:=by
 induction h with
 | one h=>exact aV.one h
 | step h _ _ ih=>exact .step h ih
theorem RW.far :∀{n:Nat} {a:Ps},RW E g n a->∃m,m<=n/\eF E g m a:=by
 intro n
 induction n using Nat.strongRecOn with
 | ind n ih=>
  intro a h;by_cases d:∃m,m<n/\RW E g m a
  .obtain⟨m,b,c⟩:=d;obtain⟨q,f,e⟩:=ih m b c;exact⟨q,A7,e⟩
  .exact⟨n,NQ _,h,λm b c=>d ⟨m,b,c⟩⟩
theorem eF.unique{m:Nat}(h:eF E g n a)(k:eF E g m a):n=m:=by
 rcases Pd n m with e|e|e
 .exact Pg h.1 (k.2 n e)
 .exact e
 .exact Pg k.1 (h.2 m e)
theorem eF.one :eF E g 1 a↔E a g:=by
 constructor
 .intro h;generalize e:(1:Nat)=n at h;have c:=h.1;cases c with
  | one h=>exact h
  | step _ _ r=>have:=r.pos;omega
 .intro h;exact⟨.one h,λm i d=>by have:=d.pos;omega⟩
theorem eF.succ(t:1<=n):eF E g (n+1) a↔(∃b,E a b/\aR g b/\eF E g n b)/\∀m,m<=n->¬eF E g m a:=by
 constructor
 .intro h;refine⟨?_,λm i j=>h.2 m A7 j.1⟩;have c:=h.1;generalize v:n+1=w at c;cases c with
  | one h=>omega
  | @step q _ b c hb r=>
   have k:q=n:=A7;subst k;obtain⟨m,f,d⟩:=r.far;rcases Nat.lt_or_ge m q with e|e
   .exact Pg (RW.step c hb d.1) (h.2 (m+1) A7)
   .have:m=q:=A7;subst this;exact⟨b,c,hb,d⟩
 .rintro⟨⟨b,c,f,d⟩,l⟩;refine⟨.step c f d.1,λm i p=>?_⟩;obtain⟨q,x,s⟩:=p.far;exact l q A7 s
theorem eF.levels :∀{n:Nat} {a:Ps},eF E g n a->∃l:List Ps,l.length=n/\(∀x∈l,∃y,E x y)/\(∀i (hi:i<l.length),eF E g (i+1) l[i]):=by
 intro n
 induction n with
 | zero=>intro a h;have:=h.1.pos;omega
 | succ n ih=>
  intro a h;have d:∃y,E a y:=by
   have e:=h.1;cases e with
   | one h=>exact⟨_,h⟩
   | step h _ _=>exact⟨_,h⟩
  by_cases k:n=0
  .subst k;exact⟨[a],rfl,λx c=>by rw[NZ] at c;rw[c];exact d,λi hi=>by
    simp at hi;subst hi;exact h⟩
  .obtain⟨⟨b,e,_,m⟩,_⟩:=(eF.succ A7).1 h;obtain⟨l,f,p,q⟩:=ih m;refine⟨l++ [a],by simp[f],λx c=>?_,λi hi=>?_⟩
   .rcases N_.1 c with g|g
    .exact p x g
    .rw[NZ] at g;rw[g];exact d
   .by_cases j:i<l.length
    .rw[List.getElem_append_left j];exact q i j
    .have:i=l.length:=by simp at hi;omega
     subst this;simp only[List.getElem_append_right (NQ _),Nat.sub_self,List.getElem_cons_zero];rw[f];exact h
theorem eF.bound(h:eF E g n a){names:List Ps}(d:∀x y,E x y->x∈names):n<=names.length:=by
 obtain⟨r,f,i,b⟩:=h.levels;rw[<-f];refine List.Nodup.length_le_of_subset ?_ (λx j=>by obtain⟨y,k⟩:=i x j;exact d x y k);rw[List.Nodup,Ob];intro l m p q s e;have c:=b l p;rw[e] at c;have:=c.unique (b m q);omega
theorem wY{m:Nat}{t:Ps}(f:∀x n,1<=n->aV E n x x->m<=n)(h:∀x,aV E m x x->¬aR x t):∀{q j:Nat} {a:Ps},j+q=m->aV E j t a->aV E q a t->1<=q->RW E t q a:=by
 intro q
 induction q with
 | zero=>intro j a _ _ _ r;omega
 | succ q ih=>
  intro j a s i k _;obtain⟨y,b,c⟩:=k.first
  by_cases l:q=0
  .subst l;have:=c.zero;subst this;exact .one b
  .have d:aV E (j+1) t y:=i.trans (aV.one b);have p:aV E m y y:=by
    have:=c.trans d;rw[show q+ (j+1)=m by omega] at this;exact this
   refine .step b ?_ (ih A7 d c A7);rcases dJ t y with e|e|e
   .exact e
   .subst e;have:=f t (j+1) A7 d;omega
   .exact Pg e (h y p)
theorem Kn{m:Nat}{t:Ps}(d:∀x n,1<=n->aV E n x x->m<=n)(i:∀x,aV E m x x->¬aR x t){j q:Nat}(z:j+ (q+1)=m)(k:aV E j t a)(p:1<=q)(y:Ps):(E a y/\aR t y/\eF E t q y)↔(E a y/\Far E t q y):=by
 constructor
 .rintro⟨b,c,r⟩;refine⟨b,r.1.walk,λn l f=>?_⟩;have s:=f.trans (k.trans (aV.one b));have:=d y (n+ (j+1)) A7 s;omega
 .rintro⟨b,c⟩;have h:aV E (j+1) t y:=k.trans (aV.one b);have v:aV E m y y:=by
   have:=c.1.trans h;rw[show q+ (j+1)=m by omega] at this;exact this
  have w:=wY d i A7 h c.1 p;refine⟨b, ?_,w,λn l f=>c.2 n l f.walk⟩;rcases dJ t y with e | e | e
  .exact e
  .subst e;have:=d t (j+1) A7 h;omega
  .exact Pg e (i y v)
theorem He{m:Nat}{t:Ps}(d:∀x n,1<=n->aV E n x x->m<=n)(e:∀x,aV E m x x->¬aR x t){q:Nat}{l:List Ps}(h:mE E t q a l):∀{j:Nat},j+q=m->aV E j t a->ng E t q a l:=by
 induction h with
 | stop a=>intro j _ _;exact .stop a
 | @step n a x l h r ih=>
  intro j f b;have i:1<=n:=by cases r <;> omega
  have c:=h.iff (Kn d e f b i);exact .step c (ih (j:=j+1) A7 (b.trans (aV.one c.1.1)))
theorem ng.unique{l m:List Ps}(h:ng E g n a l)(k:ng E g n a m):l=m:=by
 induction h generalizing m with
 | stop a=>
  generalize d:(1:Nat)=n at k;cases k with
  | stop=>rfl
  | step _ r=>have:1<=_:=(show∀{q x l},ng E g q x l->1<=q from λc=>by cases c <;> omega) r;omega
 | @step n a x l h r ih=>
  generalize d:n+1=f at k;cases k with
  | stop=>have:1<=n:=(show∀{q x l},ng E g q x l->1<=q from λc=>by cases c <;> omega) r;omega
  | @step q _ y l' h' r'=>
   have e:q=n:=A7;subst e;have:=iC.unique (λ_=>Iff.rfl) h h';subst this;rw[ih r']
theorem ou.unique{l m:List Ps}(h:ou E l)(k:ou E m):l=m:=by
 rcases h with⟨a,rfl⟩ | ⟨b,t,i,a,c,n⟩ <;> rcases k with⟨d,rfl⟩ | ⟨e,u,j,d,f,p⟩
 .rfl
 .exact Pg f.1 (a u e j)
 .exact Pg c.1 (d t b i)
 .have q:b=e:=by
   have s:=a u e j f.1;have v:=d t b i c.1;omega
  subst q;have r:=iC.unique (λ_=>Iff.rfl) c f;subst r;exact n.unique p
structure jJ (E:Ps->Ps->Prop) (gs:List Ps) (best:List Ps):Prop where
 no:best=[]->∀g∈gs,∀n,¬eF E g n g
 yes:best≠[]->∃g n,g∈gs/\eF E g n g/\mE E g n g best/\best.length=n/\(∀h∈gs,∀k,eF E h k h->n<=k/\(aR h g->n<k))
theorem jJ.Nk{B C:List Ps}(H:jJ E B C)(S:∀x y,E x y->x∈B):ou E C:=by
 by_cases I:∀x n,1<=n->¬aV E n x x
 .refine .inl ⟨I, ?_⟩;by_cases l:C=[]
  .exact l
  .obtain⟨g,n,_,p,_⟩:=H.yes l;exact Pg p.1.walk (I g n p.1.pos)
 .obtain⟨m,N,T,w⟩:∃m,1<=m/\(∃x,aV E m x x)/\∀x n,1<=n->aV E n x x->m<=n:=by
   have U:∃n,∃x,1<=n/\aV E n x x:=by
    by_cases D:∃n,∃x,1<=n/\aV E n x x
    .exact D
    .exact Pg (λx n h c=>D ⟨n,x,h,c⟩) I
   have:∀n,(∃x,1<=n/\aV E n x x)->∃m,1<=m/\(∃x,aV E m x x)/\∀x n,1<=n->aV E n x x->m<=n:=by
    intro n
    induction n using Nat.strongRecOn with
    | ind n ih=>
     rintro⟨x,h,c⟩;by_cases O:∃k,k<n/\∃x,1<=k/\aV E k x x
     .obtain⟨k,d,J⟩:=O;exact ih k d J
     .exact⟨n,h,⟨x,c⟩,λy k d J=>by
       rcases Nat.lt_or_ge k n with e|e
       .exact Pg ⟨k,e,y,d,J⟩ O
       .exact e⟩
   obtain⟨n,F⟩:=U;exact this n F
  have A:∀x,aV E m x x->x∈B:=λx G=>by
   obtain⟨P,rfl⟩:∃P,m=P+1:=⟨m-1,A7⟩;obtain⟨b,l,_⟩:=G.first
   exact S x b l
  obtain⟨t,f⟩:∃t,iC (λx=>aV E m x x) t:=by
   obtain⟨x,G⟩:=T;have V:∀(i:List Ps) (q:Ps->Prop),(∃y∈i,q y)->∃t∈i,q t/\∀y∈i,q y->¬aR y t:=by
    intro i q
    induction i with
    | nil=>rintro⟨y,r,_⟩;cases r
    | cons z i ih=>
     rintro⟨y,r,Q⟩;by_cases s:∃y∈i,q y
     .obtain⟨t,h,c,d⟩:=ih s;by_cases K:q z/\aR z t
      .refine⟨z,A9,K.1,λu a v=>?_⟩;rcases OL.1 a with rfl | a
       .exact aQ u
       .exact λL=>d u a v (fe L K.2)
      .refine⟨t,Oi _ h,c,λu a v=>?_⟩;rcases OL.1 a with rfl | a
       .exact λL=>K ⟨v,L⟩
       .exact d u a v
     .have:y=z:=by
       rcases OL.1 r with e|e
       .exact e
       .exact Pg ⟨y,e,Q⟩ s
      subst this;refine⟨y,A9,Q,λu a v=>?_⟩;rcases OL.1 a with rfl | a
      .exact aQ u
      .exact Pg ⟨u,a,v⟩ s
   obtain⟨t,h,c,d⟩:=V B (λx=>aV E m x x) ⟨x,A x G,G⟩;exact⟨t,c,λy r=>d y (A y r) r⟩
  have M:eF E t m t:=⟨wY w f.2 (j:=0) A7 (.here t) f.1 N,λn F R=>by
   have:=w t n R.pos R.walk;omega⟩
  have l:C≠[]:=λe=>H.no e t (A t f.1) m M
  obtain⟨g,n,X,p,D,_,s⟩:=H.yes l;have F:n=m:=by
   have h:=(s t (A t f.1) m M).1;have c:=w g n p.1.pos p.1.walk;omega
  subst F;have W:g=t:=by
   rcases dJ g t with e|e|e
   .exact Pg e (f.2 g p.1.walk)
   .exact e
   .have:=(s t (A t f.1) n M).2 e;omega
  subst W;exact .inr ⟨n,g,N,w,f,He w f.2 D (j:=0) A7 (.here g)⟩
end
