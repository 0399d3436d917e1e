import Derived.Test.YtppbfddlkfglgaaGreatDoorKBSort
import Derived.Test.YtppbfddlkfglgaaGreatDoorKFImpl2
import Derived.Test.YtppbfddlkfglgaaGreatDoorKCCirc
import Derived.Test.YtppbfddlkfglgaaGreatDoorKIter
set_option maxRecDepth 100000
set_option maxHeartbeats 25600000
namespace Go.Proofs.YtppbfddlkfglgaaGreatDoor
open Go.RowKit Go.Shelf Go.Proofs.Tryz
attribute [local go_sem] Oper.semAt_some
open Go.RowKit
section
variable {G:dm}{Kq:List Qz}{wz w w':QX}{bb:Nat}{a:QW}{cap:Nat}{rd:QW}{rc:Nat}{mb mx:Nat}{ts:List Zk}{d:QW}{dc:Nat}{f:QV -> QY}{ws:QV -> List Nat}
end
attribute [local go_sem] Oper.semAt_some
def nO(w:QX)(g:Nat):Prop:=∀o s,w.cell? ⟨g,o,none⟩≠some (.string s)
variable {g:Nat}{w:QX}
theorem nO.kept{w':QX}(h:nO w g)(b:g<w.heap.size)(k:K_ w w'):nO w' g:=λo s e=>h o s ((k.cell b).symm.trans e)
variable {a:QW}
theorem EN{o:Nat}{v:QY}{l:List QV}(h:Strs w a l)(d:nO w g):Strs (w.setCell ⟨g,o,none⟩ v) a l:=by
 intro i e;obtain⟨b,p,rfl,f,c⟩:=h i e;refine⟨b,p,rfl,by rw[size_setCell];exact f,?_⟩;rw[PU _ _ _ _ λj=>?_]
 .exact c
 .have k:g=b:=congrArg Addr.block j;subst k;exact d _ _ c
theorem Es{o:Nat}{v:QY}{l:List fE}(h:si w a l)(d:nO w g):si (w.setCell ⟨g,o,none⟩ v) a l:=by
 intro i e;obtain⟨b,p,rfl,f,c⟩:=h i e;refine⟨b,p,rfl,by rw[size_setCell];exact f,λj u k=>?_⟩;rw[PU _ _ _ _ λm=>?_]
 .exact c j u k
 .have n:g=b:=congrArg Addr.block m;subst n;exact d _ _ (c 0 _ rfl)
theorem Cc{vs:List QY}{l:List QV}(h:Strs w a l)(d:nO w g):Strs (w.setCells g 0 vs) a l:=by
 intro i e;obtain⟨b,p,rfl,f,c⟩:=h i e;refine⟨b,p,rfl,by rw[size_setCells];exact f,?_⟩;rw[World.cell?_setCells_out g vs 0 w _ λj _=>?_]
 .exact c
 .have k:b=g:=j;subst k;exact (d _ _ c).elim
theorem tY{vs:List QY}{l:List fE}(h:si w a l)(d:nO w g):si (w.setCells g 0 vs) a l:=by
 intro i e;obtain⟨b,p,rfl,f,c⟩:=h i e;refine⟨b,p,rfl,by rw[size_setCells];exact f,λj u k=>?_⟩;rw[World.cell?_setCells_out g vs 0 w _ λm _=>?_]
 .exact c j u k
 .have n:b=g:=m;subst n;exact (d _ _ (c 0 _ rfl)).elim
theorem JN{k m n:Int}{f:QW}{c e0 rl cl:Nat}{t:TypeId}:nO (w.alloc (.cells #[.b k,.slice a rl c,.slice f cl e0,.b m,.b n] t)) w.heap.size:=λo s e=>by
 have d:=X_ w #[.b k,.slice a rl c,.slice f cl e0,.b m,.b n] t
 match o,e with
 |0,e=>have:=d 0 _ rfl;rw[e] at this;cases this
 |1,e=>have:=d 1 _ rfl;rw[e] at this;cases this
 |2,e=>have:=d 2 _ rfl;rw[e] at this;cases this
 |3,e=>have:=d 3 _ rfl;rw[e] at this;cases this
 |4,e=>have:=d 4 _ rfl;rw[e] at this;cases this
 |o+5,e=>
  have h:=World.alloc_heap_new w (.cells #[.b k,.slice a rl c,.slice f cl e0,.b m,.b n] t);unfold World.cell? at e;simp only[h] at e;simp at e
theorem JU{b:Nat}{t:TypeId}(a:aH w b t 5)(h:∀o,o<5->∀s,w.cell? ⟨b,o,none⟩≠some (.string s)):nO w b:=λo s e=>by
 by_cases c:o<5
 .exact h o c s e
 .obtain⟨f,d,i⟩:=a;unfold World.cell? at e;simp only[d] at e;simp only[Option.isSome_none,Bool.false_eq_true,if_false] at e;have j:=(Qg.1 e).1;omega
theorem Tryz.zz :(prog.info? 54).map (·.size)=some 4:=C9
theorem Tryz.sH :(prog.info? 54).map (λi=>(i.zero,i.size,i.bytes))=some (some (.agg #[.string ByteArray.empty,.bool false,.bool false,.string ByteArray.empty]),4,40):=C9
theorem fE.one(r:fE):(#[.string r.name,.bool r.over,.bool r.fail,.string r.text]:Array QY).all (·.oneCell')=true:=
 all_oneCell_toArray (cs:=[.string r.name,.bool r.over,.bool r.fail,.string r.text]) G6
theorem yf(w:QX)(r:fE)(y:r.name.size<=1048576)(z:r.text.size<=1048576):
  Calls prog 100 #[.agg #[.string r.name,.bool r.over,.bool r.fail,.string r.text]] w λe w'=>e=.returned (.agg #[.string r.name,.bool r.over,.bool r.fail,.string r.text])/\K_ w w':=by
 go_enter func100,ntmps100
 go_wp2_with fail
 refine (qL _ r.name y).mono ?_;rintro e w1 ⟨rfl,a⟩;have h:Row w1 w.heap.size 4:=Row.kept (Row.alloc (by have:=Row.made w #[.string r.name,.bool r.over,.bool r.fail,.string r.text] 54;simpa using this) _) a;have A:w1.cell? ⟨w.heap.size,0,none⟩=some (.string r.name):=by rw[a.cell D9];simp
 have p:w1.cell? ⟨w.heap.size,1,none⟩=some (.bool r.over):=by rw[a.cell D9];simp
 have q:w1.cell? ⟨w.heap.size,2,none⟩=some (.bool r.fail):=by rw[a.cell D9];simp
 have s:w1.cell? ⟨w.heap.size,3,none⟩=some (.string r.text):=by rw[a.cell D9];simp
 have t:Row w1 (w.heap.size+1) 4:=Row.kept (by have:=Row.made (w.alloc (.cells #[.string r.name,.bool r.over,.bool r.fail,.string r.text] 54)) #[.string ⟨#[]⟩,.bool false,.bool false,.string ⟨#[]⟩] 54;simpa using this) a;have v:K_ w w1:=K_.trans F5 a;have B:=(h.at (i:=0) A7).2;have C:=h.lt;have⟨k,x⟩:=aJ h t;have j:=Kz (And.intro p (And.intro q s));clear a t h p q;go_wp2_with fail
 have l:Row (w1.setCell ⟨w.heap.size,0,none⟩ (.string r.name)) w.heap.size 4:=k.o.set _ rfl _;refine (qL _ r.text z).mono ?_;rintro e c ⟨rfl,b⟩;have d:=l.lt;have n:=l.kept b;have H:c.cell? ⟨w.heap.size,0,none⟩=some (.string r.name):=by rw[b.cell d];exact bB k.o A7 _
 have I:c.cell? ⟨w.heap.size,1,none⟩=some (.bool r.over):=by rw[b.cell d,Xk A7];exact j.o.1
 have J:c.cell? ⟨w.heap.size,2,none⟩=some (.bool r.fail):=by rw[b.cell d,Xk A7];exact j.o.2.1
 have K:c.cell? ⟨w.heap.size,3,none⟩=some (.string r.text):=by rw[b.cell d,Xk A7];exact j.o.2.2
 have f:Hid (Row c (w.heap.size+1) 4):=(x.o.set _ rfl _).kept b;have D:Hid (K_ w c):=K_.trans (K_.setCell v A9 _) b;have L:=(n.at (i:=3) A7).2;have M:=n.lt;obtain⟨⟨N,O⟩,P⟩:=f.o.at (i:=0) A7;obtain⟨⟨Q,R⟩,S⟩:=f.o.at (i:=1) A7;obtain⟨⟨T,U⟩,V⟩:=f.o.at (i:=2) A7;obtain⟨⟨W,X⟩,Y⟩:=f.o.at (i:=3) A7;clear b l d A s C B k x j v n;go_wp2
 have E:Row (c.setCell ⟨w.heap.size,3,none⟩ (.string r.text)) (w.heap.size+1) 4:=Row.set f.o _ rfl _;have F:=PD _ (w.heap.size+1) 0 r.cells (E.there (o:=0) (m:=4) (Pw _));refine Zx r.cells _ results100 rfl F underlying54 rfl Tryz.zz rfl ⟨rfl,?_⟩;have G:=D.o
 repeat (first|(refine K_.setCell ?_ D9 _)|exact G)
theorem Di(w:QX)(a:QW)(cap:Nat)(l:List fE)(V:l.length<=1048576)(F:∀c∈l,c.name.size<=1048576/\c.text.size<=1048576)(G:si w a l):
  Calls prog 99 #[.slice a l.length cap,.func (.func 100) #[] #[]] w λe w'=>∃a',e=.returned (.slice a' l.length l.length)/\iQ w' w.heap.size w'.heap.size a' l/\K_ w w':=by
 by_cases z:l.length=0
 .have H:l=[]:=QO z;subst H;go_enter func99,ntmps99
  go_wp2
  go_ret
  exact⟨none,rfl,.inl rfl,K_.refl _⟩
 .have I:=rT (P:=prog) 29 54 _ _ _ underlying29 Tryz.sH .i64 .i64 l.length A7 A7;have J:((l.length:Int) == 0)=false:=by simpa using z
  go_enter func99,ntmps99
  go_wp2
  clear I J;have r:=Row.made w (madeCells #[.string ByteArray.empty,.bool false,.bool false,.string ByteArray.empty] (l.length*4)) 54;rw[size_madeCells] at r;have A:K_ w (w.alloc (.cells (madeCells #[.string ByteArray.empty,.bool false,.bool false,.string ByteArray.empty] (l.length*4)) 54)):=ai _ _;go_loopw [16] (λs wr=>∃k:Nat,k<=l.length/\s=.b k/\K_ w wr/\Row wr w.heap.size (l.length*4)/\∀j,j<k->wr.rangeAt w.heap.size (j*4) (l.getD j fE.zero).cells) λs _=>l.length-(intOf s).toNat
  case atStart=>exact⟨0,Py _,rfl,A,r,λj h=>aS h⟩
  case round=>
   obtain⟨k,W,rfl,i,f,t⟩:=hrel;clear r A;by_cases B:k<l.length
   .obtain⟨b,o,rfl,X,d⟩:=G.kept i k B;have n:=F (l.getD k fE.zero) (by simp[List.getD,B]);have C:=Kz t;clear t;obtain⟨c,v⟩:=aj (l.getD k fE.zero);rw[<-v] at d n;have K:=Kz v;clear v;have D:=d 0 _ rfl;have L:=d 1 _ rfl;have M:=d 2 _ rfl;have N:=d 3 _ rfl;simp only[Qp] at D;clear d;have O:=f.lt;go_wp2_with fail
    refine (yf _ c n.1 n.2).mono ?_;rintro e w1 ⟨rfl,E⟩;have p:K_ wr w1:=K_.trans (by repeat (first|(refine K_.setCell ?_ A9 _)|apply K_.alloc|exact K_.refl _)) E;have Q:=i.trans p;have x:=f.kept p;have y:=x.there (o:=k*4) (m:=4) A7;have⟨R,S⟩:=aJ y x;have T:Hid (∀j,j<k->w1.rangeAt w.heap.size (j*4) (l.getD j fE.zero).cells):=λj h=>p.range O (C.o j h)
    clear C D L M N i E p f x;go_wp2_with (refine wpList_store_mid ?hgd 54 (.tmp 26) (.tmp 25) (by with_reducible rfl) w.heap.size (k*4) #[.string c.name,.bool c.over,.bool c.fail,.string c.text] ?hx ?hy ?ht ?hi ?h1 ?_)
    case hgd=>rfl
    case hx=>rfl
    case hy=>rfl
    case ht=>exact y
    case hi=>exact Tryz.zz
    case h1=>exact fE.one c
    generalize q:World.setCells w1 w.heap.size (k*4) (Array.toList #[.string c.name,.bool c.over,.bool c.fail,.string c.text])=Y;have U:=Kz q;clear q y n;go_wp2
    go_roundw
    case rel=>
     have q:=U.o;subst q;refine⟨k+1,A7,C8,K_.setCells (Pw _) c.cells (k*4) Q,Row.setCells c.cells (k*4) S.o,λj h=>?_⟩;by_cases e:j=k
     .subst e;rw[<-K.o];exact PD w1 w.heap.size (j*4) c.cells R.o
     .exact PR (T.o j A7) w.heap.size (k*4) c.cells (by simp[fE.cells];omega)
    case measure=>simp[intOf];omega
   .go_wp2
    go_ret
    have:k=l.length:=A7;subst this;exact⟨_,rfl,.inr ⟨w.heap.size,rfl,Pw _,f.lt,f,t⟩,i⟩
theorem ES(w:QX)(r:fE):
  Calls prog 59 #[.agg #[.string r.name,.bool r.over,.bool r.fail,.string r.text]] w λe w'=>e=.returned (.bool (!r.over))/\K_ w w':=by
 go_enter func59,ntmps59
 go_wp2
 go_ret
 exact⟨rfl,ai _ _⟩
theorem zQ(w:QX)(a:QW)(cap:Nat)(l:List fE)(H:l.length<=1048576)(y:si w a l):
  Calls prog 102 #[.slice a l.length cap,.func (.func 59) #[] #[]] w λe w'=>(∃i:Int,e=.returned (.b i)/\(0<=i↔∃r∈l,r.over=false))/\K_ w w':=by
 go_enter func102,ntmps102
 go_wp2
 go_loopw [8] (λi wr=>∃k:Nat,k<=l.length/\i=.b (k:Int)/\Hid (∀r∈l.take k,r.over=true)/\K_ w wr) λi _=>l.length-(intOf i).toNat
 case atStart=>exact⟨0,Py _,rfl,Kz (λr j=>by simp at j),K_.refl _⟩
 case round=>
  obtain⟨k,I,rfl,p,m⟩:=hrel;by_cases f:k<l.length
  .obtain⟨b,o,rfl,J,d⟩:=y.kept m k f;obtain⟨c,n⟩:=aj (l.getD k fE.zero);rw[<-n] at d;have q:l[k]=c:=by rw[n];simp[List.getD,f]
   have s:=Kz q;have t:=d 0 _ rfl;have z:=d 1 _ rfl;have A:=d 2 _ rfl;have B:=d 3 _ rfl;simp only[Qp] at t;have K:(k:Int)<(l.length:Int):=A7;clear d n q;go_wp2_with fail
   refine (ES _ c).mono ?_;rintro e w1 ⟨rfl,C⟩;have v:=m.trans C;clear t z A B;cases x:c.over
   .go_wp2
    go_ret
    exact⟨⟨_,rfl,λ_=>⟨c,by rw[<-s.o];exact PL f,x⟩,λ_=>A7⟩,v⟩
   .have D:Hid (∀r∈l.take (k+1),r.over=true):=λr j=>by
     rw[PH f,s.o] at j;rcases PK.1 j with h|h
     .exact p.o r h
     .rw[PI] at h;rw[h];exact x
    go_wp2
    go_roundw
    case rel=>exact⟨k+1,A7,C8,D,v⟩
    case measure=>simp[intOf];omega
  .have L:¬((k:Int)<(l.length:Int)):=A7;have E:Hid (∀r∈l,r.over=true):=by have h:=p.o;rw[Qd A7] at h;exact h
   clear f;go_wp2
   go_ret
   exact⟨⟨_,rfl,λh=>A7,λ⟨r,F,G⟩=>by have:=E.o r F;rw[G] at this;cases this⟩,m⟩
theorem xw(w:QX)(a:QW)(cap:Nat)(l:List fE)(h:l.length<=1048576)(i:si w a l):
  Calls prog 58 #[.slice a l.length cap,.func (.func 59) #[] #[]] w λe w'=>Says e (∃r∈l,r.over=false)/\K_ w w':=by
 go_enter func58,ntmps58
 go_wp2_with fail
 refine (zQ w a cap l h i).mono ?_;rintro e w1 ⟨⟨j,rfl,b⟩,d⟩;cases f:decide ((0:Int)<=j)
 .have c:Hid (¬∃r∈l,r.over=false):=λk=>by have:=b.2 k;simp[this] at f
  clear b;go_wp2
  go_ret
  exact⟨Says.no c.o,d⟩
 .have c:=Kz (b.1 (by simpa using f));clear b;go_wp2
  go_ret
  exact⟨Says.yes c.o,d⟩
attribute [local go_sem] Oper.semAt_some
theorem rG{P:Program}{e:Func}{c:Array QY}{w:QX}{p:Tmp}{a:TypeId}{b:Nat}(v:QY)(d:TypeDesc)(h:e.results= #[.cell p a])(f:c.getD p undef=.h b)(i:w.cell? ⟨b,0,none⟩=some v)(j:P.underlying a=some d)(n:d.isRow=false):(results e c).run P w=.ok v w:=by
 have k:c[p]?.getD undef=.h b:=by simpa using f
 have l:(isAgg a).run P w=.ok false w:=by
  unfold isAgg;rw[Sem.run_bind,run_underlying j w];cases d<;>simp_all
 have m:(loadVar a ⟨b,0,none⟩).run P w=.ok v w:=by simp[loadVar,Sem.run_bind,l,i]
 simp only[results,h];simp[k,asAddr,m]
def AnI(w1:QX)(c:Nat)(Kq:List Qz)(ts:List Zk)(i:Nat)(W:QX):Prop:=
 K_ w1 W/\aH W c 4 1/\∀r∈(Qj ts).take i,¬bg (Kk Kq) (Qq (Qj ts)) r
def AnX(w1:QX)(c:Nat)(Kq:List Qz)(ts:List Zk)(x:Code)(W:QX):Prop:=
 x=.ret/\K_ w1 W/\aH W c 4 1/\W.cell? ⟨c,0,none⟩=some (.bool true)/\∃r∈Qj ts,bg (Kk Kq) (Qq (Qj ts)) r
theorem AnI.calm{w1:QX}{c:Nat}{Kq:List Qz}{ts:List Zk}{i B:Nat}(m:w1.heap.size<=c)(n:c<B):Calm B (AnI w1 c Kq ts i):=by
 constructor
 .rintro W o p ⟨k,a,d⟩;have f:=(K_.refl W).alloc o;exact⟨k.trans f,a.kept f,d⟩
 .rintro W l o j q r s ⟨k,a,d⟩;have h:But (λb=>b=l) W (W.putObj l j):=⟨rfl,rfl,rfl,F7,λb _ e=>World.putObj_heap_other e⟩;exact⟨h.kept k (λb e=>by rw[e];omega),h.row a λ(e:c=l)=>A7,d⟩
theorem AnX.calm{w1:QX}{c:Nat}{Kq:List Qz}{ts:List Zk}{x:Code}{B:Nat}(n:w1.heap.size<=c)(p:c<B):Calm B (AnX w1 c Kq ts x):=by
 constructor
 .rintro W o q ⟨b,k,a,d,f⟩;have h:=(K_.refl W).alloc o;exact⟨b,k.trans h,a.kept h,(h.cell a.lt).trans d,f⟩
 .rintro W l o j r s t ⟨b,k,a,d,f⟩;have m:But (λi=>i=l) W (W.putObj l j):=⟨rfl,rfl,rfl,F7,λi _ e=>World.putObj_heap_other e⟩;exact⟨b,m.kept k (λi e=>by rw[e];omega),m.row a λ(e:c=l)=>A7,(jw j A7).trans d,f⟩
section
variable {G:dm}{Kq:List Qz}{wz w w':QX}{bb:Nat}{a:QW}{cap:Nat}{rd:QW}{rn rc:Nat}{mb mx:Nat}{ts:List Zk}{d:QW}{dc:Nat}{f:QV -> QY}{ws:QV -> List Nat}
theorem BO(K:BM G Kq wz w bb a cap rd rn rc mb mx ts d dc f ws)(L:BS Kq ts ws)(a0:ts.length<=60):
  Calls prog 60 #[.h bb] w λe w'=>Says e (∃r∈Qj ts,bg (Kk Kq) (Qq (Qj ts)) r)/\K_ w w':=by
 have⟨s,M⟩:=aJ K L;refine (callsIn_wide (n:=9)).1 ?_;refine callsIn_of_wp_marks func60 rfl trivial ?_ rfl;simp only[ntmps60,List.size_toArray,Qn,List.length_nil,Nat.reduceAdd,Nat.reduceSub,Array.replicate_succ,Array.replicate_zero,List.push_toArray,List.append_toArray,List.nil_append,List.cons_append]
 gi_wp2_with fail
 obtain⟨m,t⟩:∃m,w.alloc (.cells #[.bool false] 4)=m:=⟨_,rfl⟩;rw[t];have C:K_ w m:=by rw[<-t];exact ai _ _
 have z0:m.heap.size=w.heap.size+1:=by rw[<-t];simp
 have N:Hid (aH m w.heap.size 4 1):=by rw[<-t];exact aH.made w #[.bool false] 4
 have a1:=s.o.row.lt;have O:=(s.o.kept C).c3;refine yo (vK bb d ts.length dc (tK ts) A7) rfl (enters_of func88 C9 rfl) (Hr A7) O (λ_=>rfl)
  (AnI w w.heap.size Kq ts) (AnX w w.heap.size Kq ts) (λi=>AnI.calm (Pw _) A7) (λ_=>AnX.calm (Pw _) A7)
  ⟨C,N.o,λr p=>by simp at p⟩
  (λi=>{tmps:= #[.h bb,undef,.h w.heap.size,.h bb,.func (.func 88) #[.h bb] #[],.h (tK ts i)],defers:=[]}) ?assign (λi=>Bb λg e=>by have:=(s.o.apart e).1;omega) ?step ?done ?stop
 case assign=>
  intro l i W a2 P
  gi_wp2
  simpa using P
 case step=>
  rintro i W v ⟨k,c,j⟩;have E:(Qj ts).take (i+1)= (Qj ts).take i++[ts[i].r]:=by
   rw[PH (by simpa[Qj] using v)];simp[Qj]
  rcases (s.o.kept k).sees M.o v with⟨F,p⟩|⟨Q,p⟩;rotate_left
  .refine .inr ⟨Q,k,c,λr H=>?_⟩;rw[E] at H;rcases PK.1 H with h|h
   .exact j r h
   .rw[PI] at h;rw[h];exact p
  refine .inl ⟨F,?_⟩;have R:Hid (∃r∈Qj ts,bg (Kk Kq) (Qq (Qj ts)) r):=⟨_,PX.2 ⟨ts[i],PL v,rfl⟩,p⟩;clear F p E j c k;clear W;rintro l W _ ⟨k,c,j⟩ a3;obtain⟨⟨_,x⟩,y⟩:=c.row.at (i:=0) A7;have S:=c.lt;have T:Hid (KeepsFrom m.heap.size W (W.setCell ⟨w.heap.size,0,none⟩ (.bool true))):=((KeepsOthers.refl W).trans (KeepsOthers.setCell _ _ _)).from _
  have q:Hid (AnX w w.heap.size Kq ts .ret (W.setCell ⟨w.heap.size,0,none⟩ (.bool true))):=⟨rfl,k.setCell (Pw _) _,c.set _,bB c.row A7 _,R.o⟩;clear c j k
  gi_wp2
  exact⟨T.o,q.o⟩
 case done=>
  rintro D W U ⟨k,c,j⟩ z;have I:(Qj ts).take ts.length=Qj ts:=Qd (by simp[Qj]);rw[I] at j;have V:Hid (¬∃r∈Qj ts,bg (Kk Kq) (Qq (Qj ts)) r):=λ⟨r,x,y⟩=>j r x y
  obtain⟨⟨_,x⟩,y⟩:=c.row.at (i:=0) A7;have S:=c.lt;have X:w.heap.size<D:=A7;have a4:=Kz c;have q:Hid (K_ w ((W.setCell ⟨w.heap.size,0,none⟩ (.bool false)).putObj D (.deferred none))):=by
   have A:But (λb=>b=D) (W.setCell ⟨w.heap.size,0,none⟩ (.bool false)) ((W.setCell ⟨w.heap.size,0,none⟩ (.bool false)).putObj D (.deferred none)):=⟨rfl,rfl,rfl,F7,λb _ e=>World.putObj_heap_other e⟩;exact A.kept (k.setCell (Pw _) _) (λb e=>by rw[e];omega)
  have Y:(W.setCell ⟨w.heap.size,0,none⟩ (.bool false)).heap[D]? =some (.deferred (some [])):=(Below.heap_setCell _ _ _ _ (by show D≠w.heap.size;omega)).trans z;have B:Hid (((W.setCell ⟨w.heap.size,0,none⟩ (.bool false)).putObj D (.deferred none)).cell? ⟨w.heap.size,0,none⟩=some (.bool false)):=(jw _ A7).trans (bB c.row A7 _);clear c j I k
  gi_wp2
  exact⟨A9,.inl ⟨_,_,rfl,run_takeDeferred Y,_,rG (b:=w.heap.size) (.bool false) _ results60 rfl B.o underlying4 rfl,Says.no V.o,q.o⟩⟩
 case stop=>
  rintro D a5 W U ⟨rfl,k,c,j,J⟩ z;have X:w.heap.size<D:=A7;have q:Hid (K_ w (W.putObj D (.deferred none))):=by
   have A:But (λb=>b=D) W (W.putObj D (.deferred none)):=⟨rfl,rfl,rfl,F7,λb _ e=>World.putObj_heap_other e⟩;exact A.kept k (λb e=>by rw[e];omega)
  have B:Hid ((W.putObj D (.deferred none)).cell? ⟨w.heap.size,0,none⟩=some (.bool true)):=(jw _ A7).trans j;have Z:=Kz J;clear c j J k
  gi_wp2
  exact⟨A9,.inl ⟨_,_,rfl,run_takeDeferred z,_,rG (b:=w.heap.size) (.bool true) _ results60 rfl B.o underlying4 rfl,Says.yes Z.o,q.o⟩⟩
end
def CL(ts:List Zk)(ws:QV->List Nat)(x s:QV):Prop:=∃t∈ts,t.r.name=x/\t.tb∈ws s
structure Dx (ts:List Zk)(ws:QV->List Nat)(M:Nat)(P:QV->Prop)(ol:QV->List QV):Prop where
 iff:∀x s,s∈ol x↔P s/\CL ts ws x s
 nd:∀x,(ol x).Nodup
 len:∀x,(ol x).length<=M
variable {ws:QV -> List Nat}{P:QV -> Prop}{ts:List Zk}
theorem Dx.start(h:∀s,¬P s):Dx ts ws 0 P (λ_=>[]):=
 ⟨λx s=>⟨λe=>(by cases e),λe=>(h s e.1).elim⟩,λ_=>List.nodup_nil,λ_=>Pw _⟩
structure Dn (ts:List Zk)(ws:QV->List Nat)(M:Nat)(P:QV->Prop)(s:QV)(k:Nat)(ol:QV->List QV):Prop where
 iff:∀x s',s'∈ol x↔(P s'/\CL ts ws x s')\/(s'=s/\∃t∈ts,t.r.name=x/\t.tb∈(ws s).take k)
 nd:∀x,(ol x).Nodup
 len:∀x,(ol x).length<=M
variable {ol:QV -> List QV}
theorem Dx.enter{M:Nat}(h:Dx ts ws M P ol)(s:QV):Dn ts ws M P s 0 ol:=
 ⟨λx d=>by rw[h.iff];simp,h.nd,h.len⟩
variable {s:QV}
theorem Dn.leave{M:Nat}{Q:QV->Prop}{k:Nat}(h:Dn ts ws M P s k ol)(d:(ws s).length<=k)(e:∀c,Q c↔P c\/c=s):Dx ts ws M Q ol:=
 ⟨λx c=>by
  rw[h.iff,e,Qd d];constructor
  .rintro (⟨a,b⟩|⟨a,b⟩)
   .exact⟨.inl a,b⟩
   .subst a;exact⟨.inr rfl,b⟩
  .rintro⟨a|a,b⟩
   .exact .inl ⟨a,b⟩
   .subst a;exact .inr ⟨rfl,b⟩,h.nd,h.len⟩
theorem Dn.put{M:Nat}{k:Nat}(i:Dn ts ws M P s k ol)(D:¬P s)(l:d_ (Qj ts))(E:(ts.map (·.tb)).Nodup)(F:(ws s).Nodup){u:Zk}(m:u∈ts)(G:(ws s)[k]? =some u.tb):
  Dn ts ws (M+1) P s (k+1) (λn=>if n=u.r.name then ol u.r.name++[s] else ol n):=by
 obtain⟨q,v⟩:=PG.1 G;have w:(ws s).take (k+1)= (ws s).take k++[u.tb]:=by rw[PH q,v]
 have one:∀t∈ts,t.r.name=u.r.name->t=u:=λt y e=>by
  have a:=bO l (Qu (f:=λt:Zk=>t.r) y);have d:=bO l (Qu (f:=λt:Zk=>t.r) m);rw[e,d] at a;obtain⟨p,z,rfl⟩:=PN y;obtain⟨j,A,rfl⟩:=PN m;rcases QH p j with g|g|g
  .have:=PM.1 l p j (by simpa[Qj] using z) (by simpa[Qj] using A) g;simp only[Qj,List.getElem_map] at this;exact QK e (fM this)
  .subst g;rfl
  .have:=PM.1 l j p (by simpa[Qj] using A) (by simpa[Qj] using z) g;simp only[Qj,List.getElem_map] at this;exact QK e.symm (fM this)
 have H:u.tb∉(ws s).take k:=λi=>by
  obtain⟨I,J,e⟩:=PN i;rw[PW] at J;rw[Qf] at e;have:=PM.1 F I k A7 q A7;exact this (e.trans v.symm)
 refine⟨λx L=>?_,λx=>?_,λx=>?_⟩
 .by_cases e:x=u.r.name
  .simp only[QI e];subst e;rw[PK,PI,i.iff,w];constructor
   .rintro ((a|⟨a,t,d,h,c⟩)|a)
    .exact .inl a
    .exact .inr ⟨a,t,d,h,PK.2 (.inl c)⟩
    .exact .inr ⟨a,u,m,rfl,PK.2 (.inr A9)⟩
   .rintro (a|⟨a,t,d,h,c⟩)
    .exact .inl (.inl a)
    .exact .inr a
  .simp only[QJ e];rw[i.iff,w];constructor
   .rintro (a|⟨a,t,d,h,c⟩)
    .exact .inl a
    .exact .inr ⟨a,t,d,h,PK.2 (.inl c)⟩
   .rintro (a|⟨a,t,d,h,c⟩)
    .exact .inl a
    .rcases PK.1 c with c|c
     .exact .inr ⟨a,t,d,h,c⟩
     .rw[PI] at c;have:=rY E d m c;rw[this] at h;exact QK h.symm e
 .by_cases e:x=u.r.name
  .simp only[QI e];rw[List.nodup_append];refine⟨i.nd _,A9,λN B b C K=>?_⟩;rw[PI] at C;rw[K,C,i.iff] at B;rcases B with⟨a,_⟩|⟨_,t,d,h,c⟩
   .exact D a
   .rw[one t d h] at c;exact H c
  .simp only[QJ e];exact i.nd x
 .by_cases e:x=u.r.name
  .simp only[QI e];rw[Qi];have:=i.len u.r.name;show _+1<=M+1;omega
  .simp only[QJ e];have:=i.len x;omega
variable {left:Lit -> Bool}{cnt:Nat}
theorem zf{H:Type}{P:Program}{k:TypeId}{c:QY->Option (DataW H×List MemPlace)}{w w':QX}{b r n:Nat}{D:DataW H}{S:Nat->Prop}(h:w.ranges P k c b r n D left cnt)(q:But S w w')(i:¬S b)(j:¬S r):w'.ranges P k c b r n D left cnt:=by
 obtain⟨l,m,p,s,t,e,v,x,y,f,z⟩:=h;exact⟨l,m,p,s,t,(q.block b (aP e) i).trans e,v,x,y,(q.block r (aP f) j).trans f,z⟩
theorem vJ{H:Type}{P:Program}{k:TypeId}{a:QY->Option (DataW H×List MemPlace)}{w:QX}{b r n:Nat}{D:DataW H}(h:w.ranges P k a b r n D left cnt){t:TypeId}:¬bu w r t:=by
 obtain⟨d,f,i,j,l,_,_,_,_,c,_⟩:=h;rintro⟨m,p,e⟩;rw[c] at e;cases e
theorem Gx{H:Type}{P:Program}{k:TypeId}{a:QY->Option (DataW H×List MemPlace)}{w:QX}{b r n:Nat}{D:DataW H}(h:w.ranges P k a b r n D left cnt){t:TypeId}:¬bu w b t:=by
 obtain⟨d,f,i,j,l,c,_⟩:=h;rintro⟨m,p,e⟩;rw[c] at e;cases e
theorem BS.Pj{Kq:List Qz}(h:BS Kq ts ws)(e:aX (Kk Kq)){t:Zk}(b:t∈ts)(f:t.tb∈ws s):1<=s.size/\s.size<=20:=by
 have a:=(h.wt s t b).1 f;obtain⟨A,c,i,j⟩:=(h.good.good t.r (Qu b)).act;unfold pend at a
 split at a
 .cases a
 .rw[c] at a;have d:=(jU (e _ _ c).1 i j).2 s (List.mem_filter.1 a).1;exact⟨d.1,d.2.1⟩
theorem Lh{a:QV}:(cB a).sameKey (cB s)=true↔a=s:=by
 constructor
 .intro h;by_cases e:a=s
  .exact e
  .rw[Maps.sameKey_ne (gY e)] at h;cases h
 .rintro rfl;simp[cB,Lit.sameKey]
def Ot(ts:List Zk)(ws:QV->List Nat)(w w':QX)(e:Ending):Prop:=
 ∃mo M g ol,e=.returned (.map (some mo))/\nE w' w.heap.size mo M g ol/\Dx ts ws M (λ_=>True) ol/\M<=600000/\K_ w w'
section
variable {G:dm}{Kq:List Qz}{wz w w':QX}{bb:Nat}{a:QW}{cap:Nat}{rd:QW}{rn rc:Nat}{mb mx:Nat}{ts:List Zk}{d:QW}{dc:Nat}{f:QV -> QY}{ws:QV -> List Nat}
theorem II(N:BM G Kq wz w bb a cap rd rn rc mb mx ts d dc f ws)(hS:BS Kq ts ws)(c4:aX (Kk Kq))(h1:mx<=9000)(h2:ts.length<=60):
  Calls prog 62 #[.h bb] w λe w'=>Ot ts ws w w' e:=by
 obtain⟨V,D,hN,W,hf⟩:=N.map;have h3:=W.size_le;obtain⟨E,O⟩:=aj (w.alloc (.map #[] 0));have P:K_ w E:=by rw[O];exact ai _ _
 have c5:Hid (nE E w.heap.size w.heap.size 0 (λ_=>.slice none 0 0) λ_=>[]):=by rw[O];exact nE.made (Pw _)
 have zM:E.heap.size=w.heap.size+1:=by rw[O];simp
 have HM:=Kz (iW (S:=λ_=>False) W (But.ak P) id);have e5:E.cell? ⟨bb,5,none⟩=some (.map (some mb)):=(N.kept P).c5;have bz:bb<E.heap.size:=(N.kept P).row.lt;have h5:mb<w.heap.size:=W.lt;have⟨I,Q,HF⟩:=dC N hS hf;clear N hS W hf;have e6:(Instr.makeMap 135 none).run prog w=.ok (.map (some w.heap.size)) (w.alloc (.map #[] 0)):=rfl;go_enter func62,ntmps62
 go_upto_region 2 with fail
 clear e6;rw[<-O];clear O;go_wp2_with (first|(at_range;refine wpList_range_own _ rfl _ 100 rfl 9 101 Tryz.keyed underlying100 asIs mb V D rfl HM.o ?_;intro w0 a7 a8 c6))
 go_frame
 obtain⟨v,c7⟩:=aj E.heap.size;rw[<-c7] at a7 c6⊢;have K0:K_ w w0:=(But.aI (S:=λ_=>False) a8 λb e=>by cases e).kept P λb e=>e.elim;have c8:K_ E w0:=(But.aI (S:=λ_=>False) a8 λb e=>by cases e).kept (K_.refl _) λb e=>e.elim;have X:=Kz (c5.o.kept c8);obtain⟨y,Y⟩:=aj w.heap.size;have X:Hid (nE w0 w.heap.size y 0 (λ_=>.slice none 0 0) λ_=>[]):=by rw[Y];exact X
 have h6:y<v:=A7;have h7:w.heap.size<v:=A7;rw[<-Y];have c9:Hid (w.heap.size<=y):=PY Y.symm;clear Y c5 c8 a8 c6 e5 c7 zM P HM;go_loopw [4] (λ_ wr=>∃(left:Lit->Bool)(Z M:Nat)(g:QV->QY)(k:QV->List QV),wr.ranges prog 9 asIs mb v V D left Z/\M+60*Z<=600000/\Hid (nE wr w.heap.size y M g k)/\Hid (Dx ts ws M (λs=>Maps.has D (cB s)=true/\left (cB s)=false) k)/\K_ w wr) λ_ wr=>wr.rangeLeft mb v
 case atStart=>exact⟨_,_,0,_,_,a7,A7,X,Kz (Dx.start λs h=>by have l:=h.1;have p:=h.2;rw[l] at p;cases p),K0⟩
 case round=>
  clear X K0 a7;obtain⟨left,Z,M,g,k,a9,h8,q,R,Kr⟩:=hrel;go_wp2_with (first|(at_next;refine wpList_next_ranges (α:=QV) (β:=QY) _ rfl _ rfl 9 Tryz.keyed asIs Value.string id (λh9 kl hk=>by obtain⟨x,J,_⟩:=Maps.keyOf_str underlying9 hk;exact⟨_,J⟩) (λe7 e8 T=>⟨e7,rfl⟩) mb v V D left Z rfl a9 ?_ ?_))
  .intro d0 e9;go_wp2
   go_ret
   refine⟨y,M,g,k,rfl,q.o,⟨λx s=>?_,R.o.nd,R.o.len⟩,A7,Kr⟩;rw[R.o.iff];refine⟨λh=>⟨trivial,h.2⟩,λh=>⟨⟨?_,e9 _⟩,h.2⟩⟩;obtain⟨i0,ht,_,b0⟩:=h.2;cases a0:Maps.has D (cB s)
   .have a1:=(Q.o.Pj c4 ht b0).2;have l:=HF.o s D6;rw[Maps.atKey_of_not_has a0] at l;have p:f s=.slice none 0 0:=by injection l with l;exact l.symm
    have a2:=I.o.jo s;rw[p] at a2;rcases a2.2 with⟨_,h4⟩|⟨_,_,_,h4,_⟩
    .rw[PQ.1 h4] at b0;cases b0
    .cases h4
   .rfl
  .intro s c kl yd yp w1 b1 d1 d2 T b2 f0 f1 b3 f2 b4;have a1:s.size<=maxLen/\kl=cB s:=by
    obtain⟨x',e1,e2,f3⟩:=Maps.keyOf_str underlying9 d1;unfold encStr at e1;injection e1 with e1;subst e1;exact⟨by show x'.toArray.size<=maxLen;simpa using f3,by rw[e2];unfold cB;simp⟩
   obtain⟨a1,rfl⟩:=a1;have a3:c=f s:=by
    have l:=b2 (.held J6);rw[HF.o s a1] at l;unfold asIs at T;simp only[Ql,Prod.mk.injEq] at T;rw[<-T.1] at l;injection l with l;exact l.symm
   obtain⟨ua,uc,i⟩:=aG (I.o.jo s);rw[a3,i] at b4;have a0:Maps.has D (cB s)=true:=Maps.has_true_of_atKey b2;have K1:K_ w w1:=(But.aI (S:=λb=>b=v) b3 λb e=>(Qv e).symm).kept Kr (λb e=>by rw[e];omega);have d3:=Kz (q.o.but (But.aI (S:=λb=>b=v) b3 λb e=>(Qv e).symm) A7 λs' b e e2=>by rw[e2] at e;exact vJ a9 (Y_ (q.o.row s') e));have⟨Hu,i1,f4,f5⟩:=qH i a3 d2 a0;have f6:=Q.o.OG s;have d4:=Kz (R.o.enter s);rw[a3,i];clear i a3 d2 a0 T b2 d1 b3 f2 q;obtain⟨t,hn⟩:=aj ((ws s).length);rw[<-hn] at b4 f6⊢;have Hn:=Kz hn;clear hn;go_wp2_with fail
   clear b4;go_loopw [21] (λxi wr=>∃(m M:Nat)(g:QV->QY)(k:QV->List QV),m<=t/\xi=.b (m:Int)/\wr.ranges prog 9 asIs mb v V D (λz=>left z && !z.sameKey (cB s)) b1/\M+(t-m)+60*b1<=600000/\Hid (nE wr w.heap.size y M g k)/\Hid (Dn ts ws M (λs=>Maps.has D (cB s)=true/\left (cB s)=false) s m k)/\K_ w wr) λxi _=>t-(intOf xi).toNat
   case atStart=>exact⟨0,M,g,k,Py _,rfl,f0,A7,d3,d4,K1⟩
   case round=>
    clear d3 d4 K1 R;obtain⟨m,M,g,k,hk,rfl,b5,i2,q,HJ,F⟩:=hrel;by_cases i3:m<t
    .obtain⟨n,a4⟩:∃n,(ws s)[m]? =some n:=⟨_,PE (by have:=Hn.o;omega)⟩;obtain⟨u,i,a5⟩:=Q.o.ww s n (PP a4);have b6:=I.o.kept F;have hT:=b6.fZ u i;have b7:=b6.jo s;rw[Hu.o,<-Hn.o] at b7;obtain⟨b,o,rfl,hb,d5⟩:=eP b7 m (by simp;have:=Hn.o;omega);have c0:wr.cell? ⟨b,o+m,none⟩=some (.h n):=by rw[d5 m (yg n) (by simp[a4])];rfl
     obtain⟨x,J⟩:=aj u.r.name;have n0:wr.cell? ⟨n,0,none⟩=some (.string x):=by rw[<-a5,J];exact hT.rng 0 _ rfl
     have d6:n<w.heap.size:=by rw[<-a5];exact (I.o.fZ u i).row.lt
     have f7:n<wr.heap.size:=Px d6 F.size;have b8:x.size<=maxLen:=by
      obtain⟨i4,hA,_⟩:=(Q.o.good.good u.r (Qu i)).act;have:=(c4 _ _ hA).2.2.1;rw[J];unfold maxLen;omega
     obtain⟨va,vc,hg⟩:=aG (q.o.row x);have Hg:=Kz hg;have b9:Hid (∀w',K_ wr w'->w'.cell? ⟨n,0,none⟩=some (.string x)/\(Instr.lookup 135 (.map (some y)) (.string x) false).run prog w'=.ok (.slice va (k x).length vc) w'):=λw' K=>⟨(K.cell f7).trans n0,by rw[<-Hg.o];exact (q.o.kept K).look b8⟩
     have i5:=HJ.o.len x;have f8:Hid (Dn ts ws (M+1) (λs=>Maps.has D (cB s)=true/\left (cB s)=false) s (m+1) λt=>if t=x then k x++[s] else k t):=by
      rw[J];exact HJ.o.put (λh=>by rw[f4.o] at h;exact QK h.2 A9) I.o.asc I.o.tbs (Q.o.wn s) i (by rw[a5];exact a4)
     obtain⟨ic,d0,f9,g0,g1⟩:=bi Tryz.gH;have i6:=F.size;have i7:(m:Int)<(t:Int):=A7;clear hT b6 b7 d5 hg a4 a5 J;go_upto_region 8 with fail
     clear c0 n0;refine bG 16 b9.o λH KD L=>?_
     refine ax 0 L ?_;refine ax 4 L ?_;refine ax 8 L ?_;refine ae 12 L ?_;refine ae 13 L ?_;refine au 14 λK A=>?_;go_simp
     have K5:K_ H (H.alloc (.cells #[.string s] 9)):=ai _ _;have c1:(H.alloc (.cells #[.string s] 9)).cell? ⟨H.heap.size,0,none⟩=some (.string s):=X_ H #[.string s] 9 0 _ rfl;have B:=KD.trans K5;refine A.out _ _ (λ_=>b9.o _ B) ?_;clear A K L;have C:=Kz (q.o.kept B);obtain⟨eb,d7⟩:=aj H.heap.size;rw[<-d7] at c1⊢;generalize g2:H.alloc (.cells #[.string s] 9)=w6 at c1 B C⊢;clear g2 K5 d7;have c2:=C.o.row x;rw[Hg.o] at c2;have g3:=Kz c2;have g4:w.heap.size<=w6.heap.size:=(F.trans B).size;clear c2;try simp only[upP]
     refine au 15 λK A=>?_;refine step_append_lies _ rfl (.tmp 37) (.tmp 39) 26 rfl w.heap.size 9 ic _ 1 16 underlying26 d0 f9 g0 g1 rfl A8 (.slice va (k x).length vc) (k x).length ((k x).map Value.string) rfl g3.o ⟨eb,0,none⟩ 1 1 [.string s] rfl rfl (λj u i=>?_) (λu i=>?_) A8 D6 A7 g4 w6.heap.size rfl ?_
     .match j,i with
      |0,i=>simp at i;subst i;rw[Qo];exact c1
      |j+1,i=>simp at i
     .simp at i;subst i;rfl
     intro gb gc w7 d8 U c3 i8;rw[<-Hg.o] at U c3;obtain⟨w8,g5,d9,e0⟩:=C.o.put (s:=x) (x:=s) b8 d8 U (λe8 e=>by simp only[Value.ownBlock,Ql] at e;subst e;rcases c3 with h|h;exact .inl h;exact .inr (PY h.symm)) A7;have⟨g6,e3⟩:=aJ d9 e0;have e4:But (λb=>(g x).ownBlock=some b) w6 w7:=But.aI U λb e=>e;have g7:n<w6.heap.size:=Px d6 (F.trans B).size;have g8:Hid (w7.cell? ⟨n,0,none⟩=some (.string x)/\(Instr.lookup 135 (.map (some y)) (.string x) false).run prog w7=.ok (.slice va (k x).length vc) w7):=by
      exact⟨(e4.cell g7 λe=>by have:=((C.o.row x).lt n e).1;omega).trans (b9.o _ B).1,by have h:=C.o.sJ (s:=x) b8 U;rw[Hg.o] at h;exact h⟩
     refine af A (λ_=>g8.o) ?_;clear A K d9 d8 U c3 e4 e0;refine au 16 λK A=>?_;go_simp
     refine af A (λh=>QK rfl h) ?_;clear A K;refine aF ?_;have K8:K_ w w8:=e3.o.kept (F.trans B) (λb e=>by
      rcases e with e|e
      .exact ((C.o.row x).lt b e).1
      .rw[e];exact c9.o)
     have a6:=zf (S:=λ_=>False) b5 (But.ak B) id id;have g9:=zf a6 e3.o (λe=>by
      rcases e with e|e
      .exact Gx a6 (Y_ (C.o.row x) e)
      .have:=c9.o;omega) (λe=>by
      rcases e with e|e
      .exact vJ a6 (Y_ (C.o.row x) e)
      .omega)
     clear a6 g5;go_wp2
     go_roundw
     case rel=>exact⟨m+1,M+1,_,_,A7,C8,g9,A7,g6,f8,K8⟩
     case measure=>simp[intOf];omega
    .have h0:m=t:=A7;go_wp2
     go_roundw
     case rel=>
      refine⟨_,b1,M,g,k,b5,A7,q,Kz (HJ.o.leave (by rw[h0,Hn.o];exact Pw _) λs'=>?_),F⟩;constructor
      .rintro⟨l,p⟩;by_cases e:s'=s
       .exact .inr e
       .refine .inl ⟨l,?_⟩;have a2:(cB s').sameKey (cB s)=false:=Maps.sameKey_ne (gY e);rw[a2] at p;simpa using p
      .rintro (⟨l,p⟩|rfl)
       .exact⟨l,by rw[p];rfl⟩
       .exact⟨f5.o,by rw[Lh.2 rfl];simp⟩
     case measure=>rw[b5.left_eq,a9.left_eq];exact f1
end
open Go.RowKit Go.Sort
theorem Gz{w:QX}{B N:Nat}{D:DataW QY}(h:w.ownsMap prog 9 asIs B N D){d:List (List UInt8)}(j:d.Perm (strKeys D)):
  ∃nm:List QV,nm.length=d.length/\nm.map Value.string= (d.mergeSort λx y=>decide (x<=y)).map encStr/\rC nm/\∀s,s∈nm↔Maps.has D (cB s)=true:=by
 obtain⟨b,z,C,_⟩:=h.entries Tryz.keyed;obtain⟨E,A,F⟩:=h.keysOf;obtain rfl:b=E:=by rw[z] at A;simpa using A
 subst z;have k:∀p∈b,∃x,p.1=.string x:=λp j=>by obtain⟨v,G⟩:=F p j;obtain⟨x,_,H,_⟩:=Maps.keyOf_str underlying9 G;exact⟨x,H⟩
 have I:(strKeys (.map b)).Nodup:=by
  refine List.pairwise_map.2 (C.imp_of_mem λ{p J} c K n e=>n ?_);obtain⟨a,f⟩:=k p c;obtain⟨L,M⟩:=k J K;rw[f,M] at e⊢;exact congrArg _ e
 have O:∀x,x∈strKeys (.map b)↔Maps.has (.map b) (.string x)=true:=λx=>by
  rw[Maps.has_eq,List.any_eq_true];show x∈b.map (λp=>strOf p.1)↔_;rw[PX];constructor
  .rintro⟨p,c,rfl⟩;obtain⟨a,f⟩:=k p c;exact⟨p,c,by rw[f];simp[Lit.sameKey,strOf]⟩
  .rintro⟨p,c,i⟩;obtain⟨a,f⟩:=k p c;rw[f] at i;exact⟨p,c,by rw[f];simpa[Lit.sameKey,strOf] using i⟩
 obtain⟨l,P⟩:∃l:List QV,l=d.map λx=>(⟨x.toArray⟩:QV):=⟨_,rfl⟩
 have q:(l.map λs=>s.data.toList)=d:=by
  rw[P,List.map_map];have e:((λs:QV=>s.data.toList) ∘ λx:List UInt8=>(⟨x.toArray⟩:QV))=id:=by funext x;simp
  rw[e,List.map_id]
 have i:=xB l;rw[q] at i;have Q:l.Nodup:=by
  have m:d.Nodup:=j.nodup_iff.2 I;rw[<-q] at m;exact (List.pairwise_map.1 m).imp λ{a L} n e=>n (by rw[e])
 obtain⟨m,R⟩:=i.asc Q;refine⟨_,A9,by rw[List.map_map];rfl,m,λs=>?_⟩;rw[R];show s∈l↔Maps.has (.map b) (.string s.data.toList)=true;rw[<-O,<-j.mem_iff,<-q];constructor
 .intro r;exact Qu r
 .intro r;obtain⟨t,S,T⟩:=PX.1 r;have:t=s:=by
   have U:t.data=s.data:=by have:=congrArg List.toArray T;simpa using this
   cases t;cases s;simp_all
  rw[<-this];exact S
structure xE (w:QX)(mo:Nat)(kp:QV->Prop)(ol:QV->List QV):Prop where
 map:∃N D,N<=1000000/\w.ownsMap prog 9 asIs mo N D/\(∀s:QV,s.size<=maxLen->∃a c,D.atKey (cB s) (.held J6)=.held (.slice a (ol s).length c)/\Strs w a (ol s))/\∀s:QV,Maps.has D (cB s)=true↔kp s
 sub:∀s,ol s≠[]->kp s
theorem xE.look{w w':QX}{d:Nat}{f:QV->Prop}{ol:QV->List QV}(h:xE w d f ol)(k:K_ w w'){s:QV}(e:s.size<=maxLen):∃a c,(Instr.lookup 135 (.map (some d)) (.string s) false).run prog w'=.ok (.slice a (ol s).length c) w'/\Strs w' a (ol s):=by
 obtain⟨N,D,_,i,j,_⟩:=h.map;have l:=iW (S:=λ_=>False) i (But.ak k) id;obtain⟨v,x,n,b⟩:=l.lookup Tryz.keyed underlying135 (Tryz.GQ w') (zd:=.held J6) (zp:=[]) rfl (WideMaps.keyOf_string_mk underlying9 e);obtain⟨a,c,p,q⟩:=j s e;refine⟨a,c,?_,q.kept k⟩;unfold asIs at b;simp only[Ql,Prod.mk.injEq] at b;have r:(DataW.held v:DataW QY)=.held (.slice a (ol s).length c):=b.1.trans p;cases r;exact n
def FQ(k:Nat):Nat:=k*1000000
theorem IX(k:Nat):FQ (k+1)=FQ k+1000000:=by unfold FQ;omega
theorem H_{k:Nat}(h:k<=60):FQ k<=60000000:=by unfold FQ;omega
def LU(kp:QV->Prop)(ol:QV->List QV)(w w':QX)(e:Ending):Prop:=
 ∃(na:QW)(nc:Nat)(nm:List QV)(nb mb M:Nat)(need back:Nat->List Nat),e=.returned (.agg #[.slice na nm.length nc,.c nb nm.length nm.length,.c mb nm.length nm.length])/\rC nm/\(∀s,s∈nm↔kp s)/\vD w' na nm nb mb need back/\Ew (λx y=>y∈ol x) nm M need back/\M<=60000000/\K_ w w'
structure ObM (u:QX)(ob:Nat)(na:QW)(nc n nb mb:Nat):Prop where
 c0:u.cell? ⟨ob,0,none⟩=some (.slice na n nc)
 c1:u.cell? ⟨ob,1,none⟩=some (.c nb n n)
 c2:u.cell? ⟨ob,2,none⟩=some (.c mb n n)
 ty:bu u ob 178
variable {mb n nb nc ob:Nat}{na:QW}{u:QX}
theorem ObM.lt(h:ObM u ob na nc n nb mb):ob<u.heap.size:=by
 obtain⟨c,f,b⟩:=h.ty;exact aP b
theorem ObM.but{S:Nat->Prop}{b:QX}(h:ObM u ob na nc n nb mb)(k:But S u b)(a:¬S ob):ObM b ob na nc n nb mb:=
 ⟨(k.cell h.lt a).trans h.c0,(k.cell h.lt a).trans h.c1,(k.cell h.lt a).trans h.c2,by
  obtain⟨c,f,d⟩:=h.ty;exact⟨c,f,(k.block _ h.lt a).trans d⟩⟩
theorem ObM.kept{a:QX}(h:ObM u ob na nc n nb mb)(k:K_ u a):ObM a ob na nc n nb mb:=h.but (S:=λ_=>False) (But.ak k) id
def TabJ(w2:QX)(na:QW)(nc n:Nat)(a b:Act)(u:QX):Prop:=
 ∃ob nb mb,b= {a with tmps:=((((((((a.tmps.setIfInBounds 14 (.slice na n nc)).setIfInBounds 15 (.slice na n nc)).setIfInBounds 16 (.b (n:Int))).setIfInBounds 17 (.c nb n n)).setIfInBounds 18 (.slice na n nc)).setIfInBounds 19 (.b (n:Int))).setIfInBounds 20 (.c mb n n)).setIfInBounds 21 (.agg #[.slice na n nc,.c nb n n,.c mb n n])).setIfInBounds 4 (.h ob)}/\
  ObM u ob na nc n nb mb/\u.rowIs nb 44 n (λ_=>.slice none 0 0)/\u.rowIs mb 44 n (λ_=>.slice none 0 0)/\nb≠mb/\w2.heap.size<=nb/\w2.heap.size<=mb/\K_ w2 u
theorem rH{b:Nat}{t:TypeId}{v:QY}(h:u.heap[b]? =some (.cells (madeCells #[v] n) t)):u.rowIs b t n (λ_=>v):=by
 obtain⟨c,a,d⟩:=World.rowIs_made u v n t;rw[heap_alloc_new] at a;cases a;exact⟨_,h,d⟩
theorem bH(w2:QX)(a b c:Obj):((((w2.alloc a).alloc b).alloc c).drew).heap[w2.heap.size]? =some a/\((((w2.alloc a).alloc b).alloc c).drew).heap[w2.heap.size+1]? =some b/\((((w2.alloc a).alloc b).alloc c).drew).heap[w2.heap.size+1+1]? =some c/\K_ w2 (((w2.alloc a).alloc b).alloc c).drew:=by
 have e:=heap_alloc_new w2 a;have d:=heap_alloc_new (w2.alloc a) b;have f:=heap_alloc_new ((w2.alloc a).alloc b) c;rw[Qh] at d;rw[Qh,Qh] at f;have h:K_ ((w2.alloc a).alloc b) (((w2.alloc a).alloc b).alloc c).drew:=(ai _ _).drew;have i:K_ (w2.alloc a) (((w2.alloc a).alloc b).alloc c).drew:=((ai _ _).alloc _).drew;exact⟨(i.block _ (aP e)).trans e,(h.block _ (aP d)).trans d,f,(((ai _ _).alloc _).alloc _).drew⟩
theorem lg{w2:QX}(a:u.heap[ob]? =some (.cells #[.slice na n nc,.c nb n n,.c mb n n] 178))(b:u.heap[nb]? =some (.cells (madeCells #[J6] n) 44))(h2:u.heap[mb]? =some (.cells (madeCells #[J6] n) 44))(c:nb≠mb)(d:w2.heap.size<=nb)(e:w2.heap.size<=mb)(k:K_ w2 u):
  ObM u ob na nc n nb mb/\u.rowIs nb 44 n (λ_=>.slice none 0 0)/\u.rowIs mb 44 n (λ_=>.slice none 0 0)/\nb≠mb/\w2.heap.size<=nb/\w2.heap.size<=mb/\K_ w2 u:=
 ⟨⟨by simp[World.cell?,a],by simp[World.cell?,a],by simp[World.cell?,a],⟨_,_,a⟩⟩,rH b,rH h2,c,d,e,k⟩
theorem Tryz.J_ :(prog.info? 178).map (·.size)=some 3:=C9
theorem Tryz.Mv :(prog.info? 3).map (λi=>(i.zero,i.size,i.bytes))=some (some (.b 0),1,8):=C9
theorem Tryz.MG :(prog.info? 44).map (λi=>(i.zero,i.size,i.bytes))=some (some J6,1,24):=C9
theorem Eb(w:QX)(mo:Nat)(kp:QV->Prop)(ol:QV->List QV)(all:List QV)(m8:∀s,kp s->s∈all)(m9:all.length<=60)(n0:∀s,kp s->s.size<=20)(n1:∀s,(ol s).length<=1000000)(hL:xE w mo kp ol):
  Calls prog 103 #[.map (some mo)] w λe w'=>LU kp ol w w' e:=by
 obtain⟨n2,n3,hN,hM,hf,i1⟩:=hL.map;have n4:=hM.size_le;obtain⟨W0,b0⟩:=aj (w.alloc (.cells #[J6,J6,J6] 178));have k0:K_ w W0:=by rw[b0];exact ai _ _
 have n5:Hid (aH W0 w.heap.size 178 3):=by rw[b0];exact aH.made w #[J6,J6,J6] 178
 have i2:=iW (S:=λ_=>False) hM (But.ak k0) id;have i3:=Kz (callsIn_wide.1 (Tryz.Au (some mo) W0));have i4:=Kz (callsIn_wide.1 (Tryz.mf mo n2 n3 asIs W0 i2 D6 A7));have⟨HM,e7,HL⟩:=dC hM i1 hL;clear hM i2 hf i1 hL n4;go_enter func103,ntmps103
 go_upto_region 1 with fail
 rw[<-b0];have p8:w.heap.size+1=W0.heap.size:=by rw[b0];simp
 clear b0;go_wp2_with fail
 refine i3.o.mono ?_;rintro e w1 ⟨rfl,i5⟩;rw[i5];clear i5 w1;go_wp2_with fail
 refine i4.o.mono ?_;rintro e b ⟨v,ss,rfl,hp,d0,n6,hb⟩;obtain⟨d,i6,i7,e8,e9⟩:=Gz HM.o hp;rw[<-i7,<-i6] at d0;have k2:K_ W0 b:=K_.trans (ai _ _) hb;obtain⟨na,R,X,i8⟩:=dV d0;subst X;have i9:d.length<=60:=by
  refine Pz (List.Nodup.length_le_of_subset ?_ λx hx=>m8 x ((e7.o x).1 ((e9 x).1 hx))) m9;exact e8.imp λ{a f} n7=>fM n7
 have⟨f0,j0,j1,f1⟩:=qH i8 d0 k2 e8;have f2:Hid (∀s,s∈d↔kp s):=λs=>(e9 s).trans (e7.o s)
 have K2:=k0.trans k2;clear hp d0 n6 hb i6 i7 e9 i8 e8 i3 i4 k2 k0 e7 HM;obtain⟨n,hn⟩:=aj d.length;rw[<-hn] at i9⊢;have b1:=Kz hn;clear hn;have n8:=run_make_row' (P:=prog) 176 44 _ _ underlying176 Tryz.MG rfl .i64 .i64 n A7 A7;go_upto_region 2 with fail
 refine Em (TabJ b na R n) ?_ ?_
 .go_region
  .refine⟨rfl,b.heap.size+1+1,b.heap.size,b.heap.size+1,?_,lg (bH b _ _ _).2.2.1 (bH b _ _ _).1 (bH b _ _ _).2.1 A7 A7 A7 (bH b _ _ _).2.2.2⟩;simp only[List.setIfInBounds_toArray,List.set_cons_zero,Qw]
  .refine⟨rfl,b.heap.size+1,b.heap.size,b.heap.size+1+1,?_,lg (bH b _ _ _).2.1 (bH b _ _ _).1 (bH b _ _ _).2.2.1 A7 A7 A7 (bH b _ _ _).2.2.2⟩;simp only[List.setIfInBounds_toArray,List.set_cons_zero,Qw]
  .refine⟨rfl,b.heap.size+1+1,b.heap.size+1,b.heap.size,?_,lg (bH b _ _ _).2.2.1 (bH b _ _ _).2.1 (bH b _ _ _).1 A7 A7 A7 (bH b _ _ _).2.2.2⟩;simp only[List.setIfInBounds_toArray,List.set_cons_zero,Qw]
  .refine⟨rfl,b.heap.size+1,b.heap.size+1+1,b.heap.size,?_,lg (bH b _ _ _).2.1 (bH b _ _ _).2.2.1 (bH b _ _ _).1 A7 A7 A7 (bH b _ _ _).2.2.2⟩;simp only[List.setIfInBounds_toArray,List.set_cons_zero,Qw]
  .refine⟨rfl,b.heap.size,b.heap.size+1,b.heap.size+1+1,?_,lg (bH b _ _ _).1 (bH b _ _ _).2.1 (bH b _ _ _).2.2.1 A7 A7 A7 (bH b _ _ _).2.2.2⟩;simp only[List.setIfInBounds_toArray,List.set_cons_zero,Qw]
  .refine⟨rfl,b.heap.size,b.heap.size+1+1,b.heap.size+1,?_,lg (bH b _ _ _).1 (bH b _ _ _).2.2.1 (bH b _ _ _).2.1 A7 A7 A7 (bH b _ _ _).2.2.2⟩;simp only[List.setIfInBounds_toArray,List.set_cons_zero,Qw]
 rintro f u ⟨Y,l,p,rfl,j2,f3,f4,n9,o0,o1,O⟩;clear n8;simp only[List.setIfInBounds_toArray,List.set_cons_zero,Qw];have K3:=K2.trans O;have j3:b.heap.size<=u.heap.size:=O.size;have p9:=Kz (f0.o.kept O);have d1:Hid (pR u u.heap.size n (λc=>if c=true then l else p) (λ_ _=>.slice none 0 0) λ_ _=>[]):=by
  refine⟨λc=>?_,by simpa using n9,λc r=>Qt _ _ _ _,λc r c' p' _ x h=>(by cases h)⟩;cases c
  .exact f4
  .exact f3
 have j4:=Kz j2;have q0:=fT f3;have q1:=fT f4;have j5:Hid (gU (λx y=>y∈ol x) d 0 [] 0 0 (λ_=>[]) λ_=>[]):=gU.start _ _ _;have j6:=O;clear f3 f4 j2 O;go_wp2
 go_loopw [24] (λx wr=>∃(k M:Nat)(g:Bool->Nat->QY)(L:Bool->Nat->List Nat),k<=n/\x=.b (k:Int)/\M<=FQ k/\Hid (pR wr u.heap.size n (λc=>if c=true then l else p) g L)/\Hid (gU (λx y=>y∈ol x) d k [] 0 M (L true) (L false))/\Hid (ObM wr Y na R n l p)/\K_ b wr/\u.heap.size<=wr.heap.size) λx _=>n-(intOf x).toNat
 case atStart=>exact⟨0,0,_,_,Py _,rfl,Py _,d1,j5,j4,j6,Pw _⟩
 case round=>
  clear d1 j5 j4 j6;obtain⟨k,M,g,L,hk,rfl,j7,D,T,Q,E,Z⟩:=hrel;by_cases j8:k<n;rotate_left
  .obtain rfl:=b1.o;have o2:k=d.length:=A7;subst o2;obtain⟨q2,q3,q4,o3⟩:=Q.o;have b2:=n5.o.kept (j1.o.trans E);obtain⟨⟨_,x0⟩,g0⟩:=b2.row.at (i:=0) A7;obtain⟨⟨_,x1⟩,q5⟩:=b2.row.at (i:=1) A7;obtain⟨⟨_,x2⟩,g2⟩:=b2.row.at (i:=2) A7;have o4:=Kz b2;clear b2 o3;go_wp2_with fail
   have hR:=PD wr w.heap.size 0 [.slice na d.length R,.c l d.length d.length,.c p d.length d.length] (o4.o.row.there (o:=0) (m:=3) (Pw _));have kf:But (λf=>f=w.heap.size) wr (wr.setCells w.heap.size 0 [.slice na d.length R,.c l d.length d.length,.c p d.length d.length]):=But.set (S:=λf=>f=w.heap.size) (But.set (S:=λf=>f=w.heap.size) (But.set (S:=λf=>f=w.heap.size) (But.ak (K_.refl wr)) (p:=⟨w.heap.size,0,none⟩) rfl _) (p:=⟨w.heap.size,1,none⟩) rfl _) (p:=⟨w.heap.size,2,none⟩) rfl _;have q6:=j1.o.size;refine Zx [.slice na d.length R,.c l d.length d.length,.c p d.length d.length] _ results103 rfl hR underlying178 rfl Tryz.J_ rfl ⟨na,R,d,l,p,M,L true,L false,rfl,f1.o,f2.o,?_,T.o.whole,Pz j7 (H_ i9),kf.kept (K2.trans E) λf e=>by rw[e];exact Pw _⟩;have o5:=kf.owns (ay j0.o E) (λf e F=>by have:=(j0.o.lt f e).1;rw[Qh] at this;omega);obtain⟨a9,c9,X,a7⟩:=dV o5;simp only[Qm,true_and] at X;rw[<-X.1] at a7;exact pR.read (D.o.but kf (λc e=>by cases c<;>simp at e<;>omega) λc r f e F=>by have:=((D.o.own c r).lt f e).1;omega) a7
  have b3:k<d.length:=by have:=b1.o;omega
  obtain⟨rb,ro,e1,o6,j9⟩:=(f0.o.kept E) k b3;subst e1;obtain⟨s,hs⟩:=aj (d.getD k ByteArray.empty);rw[<-hs] at j9;have f5:d[k]=s:=by rw[hs];simp[List.getD,b3]
  have k1:kp s:=(f2.o s).1 (by rw[<-f5];exact PL b3);have k3:s.size<=maxLen:=by have:=n0 s k1;unfold maxLen;omega
  obtain⟨la,lc,k5,f6⟩:=HL.o.look (K2.trans E) k3;have k6:=Kz f5;have f7:=n1 s;obtain⟨d2,hQ⟩:=aj (ol s);rw[<-hQ] at k5 f6 f7;have⟨HQ,k7⟩:=aJ hQ f6;have q7:(k:Int)<(n:Int):=A7;clear hs f5 k1 k3 hQ f6;go_wp2_with fail
  refine (FI wr la d2.length lc).mono ?_;rintro e w3 ⟨rfl,d3⟩;have O:K_ wr w3:=by rw[d3];exact ai _ _
  have b4:w3.cell? ⟨wr.heap.size,0,none⟩=some (.slice la d2.length lc):=by rw[d3];exact X_ wr #[.slice la d2.length lc] 26 0 _ rfl
  have k8:wr.heap.size<w3.heap.size:=by rw[d3];simp
  clear d3 k5 j9;go_wp2_with fail
  refine (FC w3 wr.heap.size la lc d2 A7 k8 b4 (k7.o.kept O)).mono ?_;rintro e w4 ⟨q8,C,rfl,f8,f9,k4⟩;obtain⟨o7,o8,rfl⟩:=aG f8;have q9:C.length<=1000000:=by rw[f9.1.length_eq];exact f7
  have⟨g1,U⟩:=aJ f9 f8;have k9:=Kz (D.o.kept (O.trans k4));have l0:=Kz (Q.o.kept (O.trans k4));have l1:=Kz (T.o.enter C);have K4:=E.trans (O.trans k4);have l2:u.heap.size<=w4.heap.size:=Pz Z (O.trans k4).size;have r0:b.heap.size<=w3.heap.size:=(E.trans O).size;clear f8 f9 b4 k8 D Q T O k4 E Z k7 f7 o6;go_wp2
  go_loopw [35] (λx wr=>∃(j M:Nat)(g:Bool->Nat->QY)(L:Bool->Nat->List Nat),j<=C.length/\x=.b (j:Int)/\M<=FQ k+j/\Hid (pR wr u.heap.size n (λc=>if c=true then l else p) g L)/\Hid (gU (λx y=>y∈ol x) d k C j M (L true) (L false))/\Hid (ObM wr Y (some ⟨rb,ro,none⟩) R n l p)/\Hid (wr.ownsRow w3.heap.size 9 1 (.slice o7 C.length o8) C.length (C.map Value.string))/\K_ b wr/\u.heap.size<=wr.heap.size) λx _=>C.length-(intOf x).toNat
  case atStart=>exact⟨0,M,g,L,Py _,rfl,A7,k9,l1,l0,U,K4,l2⟩
  case round=>
   clear k9 l1 l0 U K4 l2 j7;obtain⟨j,M,g,L,hj,rfl,r1,D,T,Q,U,E,Z⟩:=hrel;by_cases d4:j<C.length;rotate_left
   .have o9:C.length<=j:=A7;have g3:Hid (gU (λx y=>y∈ol x) d (k+1) [] 0 M (L true) (L false)):=T.o.leave b3 o9 (λy=>by rw[g1.o.1.mem_iff,HQ.o,k6.o]);go_wp2
    go_roundw
    case rel=>exact⟨k+1,M,g,L,A7,C8,by rw[IX];omega,D,g3,Q,E,Z⟩
    case measure=>simp[intOf];omega
   obtain⟨a9,c9,X,a7⟩:=dV U.o;simp only[Qm,true_and] at X;rw[<-X.1] at a7;obtain⟨qb,qo,e1,r2,g4⟩:=a7 j d4;subst e1;obtain⟨s',g5⟩:=aj (C.getD j ByteArray.empty);rw[<-g5] at g4;have l3:C[j]=s':=by rw[g5];simp[List.getD,d4]
   have l4:=Kz l3;have p0:Hid (Calls prog 133 #[.slice (some ⟨rb,ro,none⟩) n R,.string s'] wr λe w'=>rV d s' e/\w'=wr):=by
    show Calls _ _ _ _ _;rw[b1.o];exact DR wr _ R d s' (by have:=b1.o;omega) f1.o (f0.o.kept E)
   have r3:(j:Int)<(C.length:Int):=A7;clear X a7 g5 l3;go_wp2_with fail
   refine p0.o.mono ?_;rintro e w5 ⟨⟨q,bq,rfl,g6,g7⟩,l5⟩;rw[l5];clear l5 w5;cases bq
   .have p1:=Kz (g7 rfl);clear g6 g7 g4;have g3:Hid (gU (λx y=>y∈ol x) d k C (j+1) M (L true) (L false)):=T.o.skip d4 (by rw[l4.o];exact p1.o);go_wp2
    go_roundw
    case rel=>exact⟨j+1,M,g,L,A7,C8,A7,D,g3,Q,U,E,Z⟩
    case measure=>simp[intOf];omega
   obtain⟨l6,l7⟩:=g6 rfl;have l8:q<n:=by have:=b1.o;omega
   have p2:Hid (d[q]=s'):=by show d[q]=s';rw[<-l7];simp[List.getD,l6]
   have l9:Hid (gU (λx y=>y∈ol x) d k C (j+1) (M+1) (λr=>if r=k then L true k++[q] else L true r) λr=>if r=q then L false q++[k] else L false r):=T.o.put ⟨f1.o,λx y m0=>(f2.o x).2 (HL.o.sub x λe=>by rw[e] at m0;cases m0)⟩ d4 g1.o.2 l6 (by rw[p2.o,l4.o]) b3 (λy hy=>by rw[g1.o.1.mem_iff,HQ.o] at hy;rw[k6.o];exact hy);have r4:=H_ (show k<=60 by omega);have r5:=(T.o.len k).1;have p3:=(T.o.len q).2;obtain⟨ic,m1,m2,m3,b4⟩:=info_parts Tryz.Mv;clear g6 g7 l7 g4;obtain⟨d5,d6,g8⟩:=aG (D.o.own true k);have d7:=Kz g8;have rA:wr.cell? ⟨l,k,none⟩=some (.slice d5 (L true k).length d6):=by have h:=(D.o.row true).cell j8;rw[g8] at h;exact h
   have g9:Hid (∀w',K_ wr w'->w'.cell? ⟨Y,1,none⟩=some (.c l n n)/\w'.cell? ⟨l,k,none⟩=some (.slice d5 (L true k).length d6)):=λw' K=>⟨(K.cell Q.o.lt).trans Q.o.c1,(K.cell (fT (D.o.row true))).trans rA⟩
   clear g8 rA;go_upto_region 11 with fail
   refine bG 12 g9.o λG KD H=>?_
   refine ax 0 H ?_;refine ax 4 H ?_;refine ae 8 H ?_;refine au 9 λK A=>?_;go_simp
   have K5:K_ G (G.alloc (.cells #[.b (q:Int)] 3)):=ai _ _;have V:(G.alloc (.cells #[.b (q:Int)] 3)).cell? ⟨G.heap.size,0,none⟩=some (.b (q:Int)):=X_ G #[.b (q:Int)] 3 0 _ rfl;have I:=KD.trans K5;refine A.out _ _ (λ_=>g9.o _ I) ?_;clear A K H;have t:=Kz (D.o.kept I);have B:=Kz (Q.o.kept I);obtain⟨eb,b5⟩:=aj G.heap.size;rw[<-b5] at V⊢;generalize h0:G.alloc (.cells #[.b (q:Int)] 3)=w6 at V I t B⊢;clear h0 K5 b5 KD;have a2:=t.o.own true k;rw[d7.o] at a2;have b6:=Kz a2;have b7:u.heap.size<=w6.heap.size:=Pz (Z) I.size;clear a2;try simp only[upP]
   refine au 10 λK A=>?_;refine step_append_lies _ rfl (.tmp 53) (.tmp 55) 44 rfl u.heap.size 3 ic _ 1 8 underlying44 m1 m2 m3 b4 rfl A8 (.slice d5 (L true k).length d6) (L true k).length ((L true k).map kz) rfl b6.o ⟨eb,0,none⟩ 1 1 [.b (q:Int)] rfl rfl (λj u z=>?_) (λu z=>?_) A8 D6 A7 b7 w6.heap.size rfl ?_
   .match j,z with
    |0,z=>simp at z;subst z;rw[Qo];exact V
    |j+1,z=>simp at z
   .simp at z;subst z;rfl
   intro gb gc J b8 W a3 h1;rw[<-d7.o] at W a3;obtain⟨b9,c0⟩:=t.o.put true k (x:=q) b8 W (λy e=>by simp only[Value.ownBlock,Ql] at e;subst e;rcases a3 with h|h;exact .inl h;exact .inr (PY h.symm));have a4:But (λf=>(g true k).ownBlock=some f) w6 J:=But.aI W λf e=>e;have a5:J.rowIs l 44 n (g true):=gL (t.o.row true) (a4.block _ (fT (t.o.row true)) λe=>aN (gQ (t.o.row true)) (Y_ (t.o.own true k) e) A8 rfl);have h2:=a5.frozen k;have c3:=a5.cell j8;have c4:J.cell? ⟨Y,1,none⟩=some (.c l n n):=(a4.cell B.o.lt λe=>aN B.o.ty (Y_ (t.o.own true k) e) A8 rfl).trans B.o.c1;have a6:Hid (J.cell? ⟨Y,1,none⟩=some (.c l n n)/\J.cell? ⟨l,k,none⟩=some (.slice d5 (L true k).length d6)):=⟨c4,by rw[c3,d7.o]⟩;have⟨h3,d8⟩:=aJ b9 c0;refine A.out _ _ (λ_=>a6.o) ?_;clear A K b9 c0 b8 W a3 a4 a5 c4 h1 V;have H:=a6.o;try simp only[upP]
   refine ae 11 H ?_;refine au 12 λK A=>?_;go_simp
   refine af A (λh=>QK rfl h) ?_;clear A K H;refine aF ?_;have m4:=Kz (But.ak (S:=λy=>(g true k).ownBlock=some y\/y= (if true=true then l else p)) I);have c5:=Kz (m4.out.trans d8.o);have d9:=Kz (B.o.but d8.o (λe=>by
    rcases e with e|e
    .exact aN B.o.ty (Y_ (t.o.own true k) e) A8 rfl
    .exact aN B.o.ty (gQ (t.o.row true)) A8 e))
   generalize c6:J.setCell ⟨(if true=true then l else p),k,none⟩ (.c gb ((L true k).length+1) gc)=a8 at h3 d8 d9 c5;have c7:J.setCell ⟨l,k,none⟩ (.c gb ((L true k).length+1) gc)=a8:=c6;rw[c7];clear c6 c7 c3 h2 a6 b6 b7 d7 g9 m4 d8 t B I;have h4:∃(g2:Bool->Nat->QY)(N:Bool->Nat->List Nat),Hid (pR a8 u.heap.size n (λc=>if c=true then l else p) g2 N)/\Hid (N=λc r=>if c=true/\r=k then L true k++[q] else L c r):=⟨_,_,h3,Kz rfl⟩;obtain⟨g2,N,a0,h5⟩:=h4;have r6:(N false q).length<=M:=by rw[h5.o];simpa using p3
   have e0:=Kz (c5.o.owns U.o (λf e F=>by
    rcases F with F|F
    .exact aN (Y_ U.o e) (Y_ (D.o.own true k) F) A8 rfl
    .exact aN (Y_ U.o e) (gQ (D.o.row true)) A8 F))
   have KA:K_ b a8:=c5.o.kept E (λf e=>by
    rcases e with e|e
    .exact Pz j3 ((D.o.own true k).lt f e).1
    .rw[e];exact o0)
   have h6:u.heap.size<=a8.heap.size:=Pz Z c5.o.size;have p4:=E;clear h3 c5 D Q U E Z p4;obtain⟨e2,e3,h7⟩:=aG (a0.o.own false q);have e4:=Kz h7;have rB:a8.cell? ⟨p,q,none⟩=some (.slice e2 (N false q).length e3):=by have h:=(a0.o.row false).cell l8;rw[h7] at h;exact h
   have h8:Hid (∀w',K_ a8 w'->w'.cell? ⟨Y,2,none⟩=some (.c p n n)/\w'.cell? ⟨p,q,none⟩=some (.slice e2 (N false q).length e3)):=λw' K=>⟨(K.cell d9.o.lt).trans d9.o.c2,(K.cell (fT (a0.o.row false))).trans rB⟩
   clear h7 rB;go_upto_region 12 with fail
   refine bG 12 h8.o λG KD H=>?_
   refine ax 0 H ?_;refine ax 4 H ?_;refine ae 8 H ?_;refine au 9 λK A=>?_;go_simp
   have K5:K_ G (G.alloc (.cells #[.b (k:Int)] 3)):=ai _ _;have V:(G.alloc (.cells #[.b (k:Int)] 3)).cell? ⟨G.heap.size,0,none⟩=some (.b (k:Int)):=X_ G #[.b (k:Int)] 3 0 _ rfl;have I:=KD.trans K5;refine A.out _ _ (λ_=>h8.o _ I) ?_;clear A K H;have t:=Kz (a0.o.kept I);have B:=Kz (d9.o.kept I);obtain⟨eb,b5⟩:=aj G.heap.size;rw[<-b5] at V⊢;generalize h0:G.alloc (.cells #[.b (k:Int)] 3)=w6 at V I t B⊢;clear h0 K5 b5 KD;have a2:=t.o.own false q;rw[e4.o] at a2;have b6:=Kz a2;have b7:u.heap.size<=w6.heap.size:=Pz (h6) I.size;clear a2;try simp only[upP]
   refine au 10 λK A=>?_;refine step_append_lies _ rfl (.tmp 65) (.tmp 67) 44 rfl u.heap.size 3 ic _ 1 8 underlying44 m1 m2 m3 b4 rfl A8 (.slice e2 (N false q).length e3) (N false q).length ((N false q).map kz) rfl b6.o ⟨eb,0,none⟩ 1 1 [.b (k:Int)] rfl rfl (λj u z=>?_) (λu z=>?_) A8 D6 A7 b7 w6.heap.size rfl ?_
   .match j,z with
    |0,z=>simp at z;subst z;rw[Qo];exact V
    |j+1,z=>simp at z
   .simp at z;subst z;rfl
   intro gb gc J b8 W a3 h1;rw[<-e4.o] at W a3;obtain⟨b9,c0⟩:=t.o.put false q (x:=k) b8 W (λy e=>by simp only[Value.ownBlock,Ql] at e;subst e;rcases a3 with h|h;exact .inl h;exact .inr (PY h.symm));have a4:But (λf=>(g2 false q).ownBlock=some f) w6 J:=But.aI W λf e=>e;have a5:J.rowIs p 44 n (g2 false):=gL (t.o.row false) (a4.block _ (fT (t.o.row false)) λe=>aN (gQ (t.o.row false)) (Y_ (t.o.own false q) e) A8 rfl);have h2:=a5.frozen q;have c3:=a5.cell l8;have c4:J.cell? ⟨Y,2,none⟩=some (.c p n n):=(a4.cell B.o.lt λe=>aN B.o.ty (Y_ (t.o.own false q) e) A8 rfl).trans B.o.c2;have a6:Hid (J.cell? ⟨Y,2,none⟩=some (.c p n n)/\J.cell? ⟨p,q,none⟩=some (.slice e2 (N false q).length e3)):=⟨c4,by rw[c3,e4.o]⟩;have⟨h9,e5⟩:=aJ b9 c0;refine A.out _ _ (λ_=>a6.o) ?_;clear A K b9 c0 b8 W a3 a4 a5 c4 h1 V;have H:=a6.o;try simp only[upP]
   refine ae 11 H ?_;refine au 12 λK A=>?_;go_simp
   refine af A (λh=>QK rfl h) ?_;clear A K H;refine aF ?_;have m5:=Kz (But.ak (S:=λy=>(g2 false q).ownBlock=some y\/y= (if false=true then l else p)) I);have c8:=Kz (m5.out.trans e5.o);have m6:=Kz (B.o.but e5.o (λe=>by
    rcases e with e|e
    .exact aN B.o.ty (Y_ (t.o.own false q) e) A8 rfl
    .exact aN B.o.ty (gQ (t.o.row false)) A8 e))
   generalize c6:J.setCell ⟨(if false=true then l else p),q,none⟩ (.c gb ((N false q).length+1) gc)=e6 at h9 e5 m6 c8;have c7:J.setCell ⟨p,q,none⟩ (.c gb ((N false q).length+1) gc)=e6:=c6;rw[c7];clear c6 c7 c3 h2 a6 b6 b7 e4 h8 m5 e5 t B I;have p5:=Kz (c8.o.owns e0.o (λf e F=>by
    rcases F with F|F
    .exact aN (Y_ e0.o e) (Y_ (a0.o.own false q) F) A8 rfl
    .exact aN (Y_ e0.o e) (gQ (a0.o.row false)) A8 F))
   have KB:K_ b e6:=c8.o.kept KA (λf e=>by
    rcases e with e|e
    .exact Pz j3 ((a0.o.own false q).lt f e).1
    .rw[e];exact o1)
   have p6:u.heap.size<=e6.heap.size:=Pz h6 c8.o.size;have h4:∃(i0:Bool->Nat->QY)(a1:Bool->Nat->List Nat),Hid (pR e6 u.heap.size n (λc=>if c=true then l else p) i0 a1)/\Hid (a1=λc r=>if c=false/\r=q then N false q++[k] else N c r):=⟨_,_,h9,Kz rfl⟩;obtain⟨i0,a1,d1,m7⟩:=h4;have p7:Hid (gU (λx y=>y∈ol x) d k C (j+1) (M+1) (a1 true) (a1 false)):=by
    have e1:a1 true=λr=>if r=k then L true k++[q] else L true r:=by funext r;rw[m7.o,h5.o];simp
    have F:a1 false=λr=>if r=q then L false q++[k] else L false r:=by funext r;rw[m7.o,h5.o];simp
    show gU _ _ _ _ _ _ _ _;rw[e1,F];exact l9.o
   clear h9 c8 a0 e0 KA h6 l9;go_wp2
   go_roundw
   case rel=>exact⟨j+1,M+1,i0,a1,A7,C8,A7,d1,p7,m6,p5,KB,p6⟩
   case measure=>simp[intOf];omega
def Nt(nm:List QV)(ps:List Nat)(w w':QX)(e:Ending):Prop:=
 ∃da:QW,e=.returned (.slice da (ps.map (nameOf nm)).length (ps.map (nameOf nm)).length)/\iM w' w.heap.size w'.heap.size da (ps.map (nameOf nm))/\K_ w w'
theorem La(w:QX)(na:QW)(nc:Nat)(a:List QV)(v1 v2:QY)(_h1c:v1.oneCell'=true)(_h2c:v2.oneCell'=true)(C:QW)(K:Nat)(ps:List Nat)(D:∀p∈ps,p<a.length)(b5:ps.length<=1000)(_hnl:a.length<=1000)(L:∀s∈a,s.size<=1048576)(M:Strs w na a)(N:uM w C ps):
  Calls prog 104 #[.agg #[.slice na a.length nc,v1,v2],.slice C ps.length K] w λe w'=>Nt a ps w w' e:=by
 obtain⟨O,P,Q,R,S⟩:=bi Tryz.gH;obtain⟨b,l⟩:=aj (w.alloc (.cells #[.slice na a.length nc,v1,v2] 178));have m:K_ w b:=by rw[l];exact ai _ _
 have T:b.cell? ⟨w.heap.size,0,none⟩=some (.slice na a.length nc):=by rw[l];exact X_ w #[.slice na a.length nc,v1,v2] 178 0 _ rfl
 have U:w.heap.size<b.heap.size:=by rw[l];simp
 go_enter func104,ntmps104
 go_upto_region 1 with fail
 rw[<-l];clear l;go_wp2
 go_loopg [5,10] ps.length λV W X wr=>∃(i:Nat)(c:QW)(d:Nat),W=.slice c i d/\X=.b (i:Int)/\i+V=ps.length/\K_ b wr/\Hid (wr.ownsRow b.heap.size 9 1 (.slice c i d) i (((ps.take i).map (nameOf a)).map Value.string))
 case atStart=>exact⟨0,none,0,rfl,rfl,A7,K_.refl _,Qt _ _ _ _⟩
 case round=>
  obtain⟨i,c,d,rfl,rfl,hi,f,v⟩:=hrel;by_cases b6:(i:Int)<(ps.length:Int)
  .have n:i<ps.length:=A7;obtain⟨pb,po,Y,b7,Z⟩:=(N.kept (m.trans f)) i n;subst Y;obtain⟨p,h⟩:=aj (ps.getD i 0);rw[<-h] at Z;have a0:p<a.length:=D p (by rw[h];simp[List.getD,n]);obtain⟨sb,so,e2,b8,a1⟩:=(M.kept (m.trans f)) p a0;subst e2;obtain⟨s,j⟩:=aj (a.getD p ByteArray.empty);rw[<-j] at a1;have a2:Hid ((ps.take (i+1)).map (nameOf a)= (ps.take i).map (nameOf a)++[s]):=by
    show _=_;rw[PH n,QM,j,h];simp[nameOf,List.getD,n]
   have d0:=(f.cell U).trans T;have b9:(p:Int)<(a.length:Int):=A7;clear h j;have x:K_ wr (wr.alloc (.cells #[.string s] 9)):=ai _ _;have E:=Kz (ay v.o x);have F:=Kz (f.trans x);have a3:b.heap.size<=(wr.alloc (.cells #[.string s] 9)).heap.size:=F.out.size;have a4:Hid (∀q u,([.string s]:List QY)[q]? =some u->(wr.alloc (.cells #[.string s] 9)).cell? ((⟨wr.heap.size,0,none⟩:Addr).add q)=some u):=λq u r=>by rw[Qo];exact X_ wr #[.string s] 9 q u r
   have a5:Hid (∀u∈([.string s]:List QY),u.oneCell'=true):=λu r=>by simp only[Qr,Qs,or_false] at r;subst r;rfl
   clear x;go_wp2_with (at_builtin;refine wpList_append_own _ rfl (.tmp 14) (.tmp 20) 26 rfl b.heap.size 9 O _ 1 16 underlying26 P Q R S rfl A8 (.slice c i d) i (((ps.take i).map (nameOf a)).map Value.string) rfl E.o ⟨wr.heap.size,0,none⟩ 1 1 [.string s] rfl rfl a4.o a5.o D6 A7 a3 ?_;intro v' w6 y G _;have KP:=aL F.out (Pw _) E.o G;have a6:=Kz y;obtain⟨a7,a8,rfl⟩:=aG y;clear y G)
   go_roundg (gk-1)
   case measure=>omega
   case rel=>exact⟨i+1,a7,a8,rfl,C8,A7,KP,Kz (by rw[a2.o,QM];exact a6.o)⟩
  .have a9:i=ps.length:=A7;subst a9;rw[Qc] at v;obtain⟨c0,c1,z,A⟩:=dV v.o;simp only[Qm] at z;rw[<-z.1] at A;have H:=Kz A;obtain⟨k,t⟩:=aj (ps.map (nameOf a));have I:ps.length=k.length:=by rw[t];simp
   rw[<-t] at H;have B:=Kz t;have b0:Hid (∀s∈k,s.size<=1048576):=λs j=>by
    rw[B.o] at j;obtain⟨p,h,rfl⟩:=PX.1 j;have:=D p h;exact L _ (by rw[uS this];exact PL this)
   have b1:Hid (Calls prog 134 #[.slice c ps.length d,.func (.func 98) #[] #[]] wr λe w'=>∃da,e=.returned (.slice da k.length k.length)/\iM w' wr.heap.size w'.heap.size da k/\K_ wr w'):=by
    show Calls _ _ _ _ _;rw[I];exact Ec wr c d k A7 b0.o H.o
   clear z A t I;go_wp2_with fail
   refine b1.o.mono ?_;rintro e w5 ⟨b2,rfl,J,k5⟩;have b3:=Kz J;clear J;go_wp2
   go_ret
   refine⟨b2,by rw[B.o];rfl,?_,(m.trans f).trans k5⟩;have b4:=b3.o;rw[<-B.o];have hz:=(m.trans f).size;exact b4.mono hz (Pw _)
