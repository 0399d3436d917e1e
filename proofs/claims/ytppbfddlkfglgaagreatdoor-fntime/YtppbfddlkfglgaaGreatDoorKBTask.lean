import Derived.Test.YtppbfddlkfglgaaGreatDoorKVLead
import Derived.Test.YtppbfddlkfglgaaGreatDoorKWGo7b
import Derived.Test.YtppbfddlkfglgaaGreatDoorKXWant
import Derived.Test.YtppbfddlkfglgaaGreatDoorKOFind2
set_option maxRecDepth 100000
set_option maxHeartbeats 25600000
namespace Go.Proofs.YtppbfddlkfglgaaGreatDoor
open Go.RowKit Go.Proofs.Tryz
theorem Tryz.GM :(prog.info? 68).map (·.size)=some 2:=C9
variable {xs:List QY}{w:QX}
theorem dE.set{P:Nat->Prop}{l:List Q_}{c p:Nat}(h:dE w P xs l)(d:∀b,P b->b≠c)(u:QY):dE (w.setCell ⟨c,p,none⟩ u) P xs l:=by
 refine⟨h.1,λi e=>?_⟩;obtain⟨f,j,k,m,n,a⟩:=h.2 i e;refine⟨f,j,k,(λq r=>?_),n,a⟩;obtain⟨b,o,rfl,s,t⟩:=m q r;exact⟨b,o,rfl,by rw[size_setCell];exact s,by rw[Zj (d b (a _ rfl))];exact t⟩
variable {base n size:Nat}{t:TypeId}{w':QX}
theorem Ky{b m:Nat}{e:TypeId}{v:QY}(h:w.ownsRow base e size v n xs)(k:Xj b (b+1) w w')(d:aH w b t m)(f:t≠e):w'.ownsRow base e size v n xs:=by
 refine⟨h.1,?_⟩;rcases h.2 with a|⟨g,i,j,rfl,l,c,rest⟩
 .exact .inl a
 .refine .inr ⟨g,i,j,rfl,l,?_,rest⟩;have p:g≠b:=by
   rintro rfl;obtain⟨q,a,_⟩:=d;rw[c] at a;simp only[Ql,Obj.cells.injEq] at a;exact f a.2.1.symm
  rw[k.block g (aP c) A7];exact c
theorem dV{v:QY}{l:List QV}(h:w.ownsRow base t 1 v n (l.map Value.string)):∃a cap,v=.slice a l.length cap/\Strs w a l:=by
 have c:n=l.length:=by have:=h.1;simp at this;omega
 subst c;rcases h.2 with⟨rfl,d⟩|⟨g,cap,f,rfl,j,e,k,_,_,_⟩
 .exact⟨none,0,by rw[d],λi b=>A7⟩
 .refine⟨_,cap,rfl,λi b=>⟨g,0,rfl,aP e,?_⟩⟩;have:=h.cells (g:=g) rfl i (.string (l.getD i ByteArray.empty)) (by simp[List.getD,b]);rw[Qo] at this;exact this
structure StX (W1 wr:QX)(sb:Nat)(ra:QW)(n rc:Nat)(d:QW)(t:List Q_)(dc:Nat)(xs:List QY):Prop where
 kb:Xj sb (sb+1) W1 wr
 row:aH wr sb 68 2
 Kj:wr.cell? ⟨sb,0,none⟩=some (.slice ra n rc)
 runs:wr.cell? ⟨sb,1,none⟩=some (.slice d t.length dc)
 own:wr.ownsRow W1.heap.size 59 7 (.slice d t.length dc) t.length xs
 pack:dE wr (λb=>sb<b) xs t
def Og(Kj:List QV)(T:List Q_)(w w':QX)(e:Ending):Prop:=
 ∃ra rc d dc xs,e=.returned (.agg #[.slice ra Kj.length rc,.slice d T.length dc])/\w'.ownsRow w.heap.size 9 1 (.slice ra Kj.length rc) Kj.length (Kj.map Value.string)/\w'.ownsRow w.heap.size 59 7 (.slice d T.length dc) T.length xs/\dE w' (λb=>w.heap.size<=b) xs T/\K_ w w'
theorem AY :∀(l t:List Q_),d_ t->d_ (l.foldl dH t)
 |[],_,h=>h
 |x :: l,t,h=>AY l (dH t x) (lY h)
theorem Gj(w:QX)(Q S rc:Nat)(Kj:List QV)(a:QW)(cap:Nat)(R:List Q_)(g2:Kj.length<=10)(g3:R.length<=10000)(d5:∀r∈R,r.texts.length<=1000)(d6:∀k,((R.take k).foldl dH []).length<=10000)(hR:Strs w (some ⟨Q,S,none⟩) Kj)(hS:jD w a R):
  Calls prog 17 #[.slice (some ⟨Q,S,none⟩) Kj.length rc,.slice a R.length cap] w λe w'=>Og Kj (R.foldl dH []) w w' e:=by
 obtain⟨is,hi,d7,d8,d9⟩:=bi Tryz.gH;obtain⟨h,T⟩:=aj (w.alloc (.cells #[J6,J6] 68));have a0:K_ w h:=by rw[T];exact ai _ _
 have a1:aH h w.heap.size 68 2:=by rw[T];exact aH.made w #[J6,J6] 68
 have g4:w.heap.size+1<=h.heap.size:=a1.lt;have b0:=Kz a1;have U:Hid (K_ h (h.alloc (.cells #[] 9))):=ai _ _;have a2:Hid ((h.alloc (.cells #[] 9)).ownsRow h.heap.size 9 1 (.c h.heap.size 0 0) 0 (([]:List QV).map Value.string)):=Qa h #[] 0 (Pw _) (Py _) rfl;have b1:Hid (∀j u,(Kj.map Value.string)[j]? =some u->(h.alloc (.cells #[] 9)).cell? ((⟨Q,S,none⟩:Addr).add j)=some u):=λj u J=>by
  have hj:j<Kj.length:=by have:=(PG.1 J).1;simpa using this
  obtain⟨b,o,e,x,i⟩:=(hR.kept (a0.trans U.o)) j hj;simp only[Ql] at e;rw[e,Qo,i];simp[hj] at J;simp[List.getD,hj,J]
 have b2:Hid (∀u∈Kj.map Value.string,u.oneCell'=true):=λu J=>by obtain⟨g5,_,rfl⟩:=PX.1 J;rfl
 have b3:h.heap.size<=(h.alloc (.cells #[] 9)).heap.size:=U.o.size;clear a1;go_enter func17,ntmps17
 go_upto_region 1 with fail
 rw[<-T];clear T;go_wp2_with (at_builtin;refine wpList_append_own _ rfl (.tmp 7) (.tmp 8) 26 rfl h.heap.size 9 is _ 1 16 underlying26 hi d7 d8 d9 rfl A8 (.c h.heap.size 0 0) 0 [] rfl a2.o ⟨Q,S,none⟩ Kj.length rc (Kj.map Value.string) rfl A9 b1.o b2.o D6 A7 b3 ?_;intro v6 F V b4 _;have X:K_ h F:=aL U.o (Pw _) a2.o b4;rw[Qb,List.nil_append] at V;obtain⟨n,q,rfl⟩:=aG V;have b5:=Kz V;clear V b4)
 obtain⟨A,K⟩:=aj (F.alloc (.cells #[.slice n Kj.length q,J6] 68));obtain⟨s,C⟩:=aj F.heap.size;have Y:K_ F A:=by rw[K];exact ai _ _
 have a3:Hid (aH A s 68 2):=by rw[K,C];exact aH.made F #[.slice n Kj.length q,J6] 68
 have b6:A.rangeAt s 0 [.slice n Kj.length q,J6]:=by rw[K,C];exact X_ F #[.slice n Kj.length q,J6] 68
 have e0:=Kz b6;have b7:=Kz (b0.o.kept (X.trans Y));have e1:=Kz (ay b5.o Y);have K1:K_ w A:=(a0.trans X).trans Y;have e2:=X.size;have e3:s+1<=A.heap.size:=a3.o.lt;have g6:w.heap.size<s:=A7;rw[<-K,<-C];clear b6 b5 a2 b1 b0 K C b2 b3 U Y X e2 a0;go_loopw [6] (λL wr=>∃(k:Nat)(d:QW)(l:Nat)(xs:List QY),k<=R.length/\L=.b k/\StX A wr s n Kj.length q d ((R.take k).foldl dH []) l xs) λL _=>R.length-(intOf L).toNat
 case atStart=>
  have i:=e0.o;exact⟨0,none,0,[],Py _,rfl,⟨Xj.refl _ _ _,a3.o,i 0 _ rfl,i 1 _ rfl,Qt _ _ _ _,dE.nil _ _⟩⟩
 case round=>
  obtain⟨k,d,l,xs,hk,rfl,f⟩:=hrel;have a4:=d6 k;by_cases M:k<R.length
  .have Kr:K_ w wr:=f.kb.kept K1 A7;obtain⟨b,o,D,N,rfl,x,i,a5,b8⟩:=hS.kept Kr k M;obtain⟨t,E⟩:=aj ((R.take k).foldl dH []);obtain⟨y,Z⟩:=aj (R.getD k Q_.zero);have e4:Hid ((R.take (k+1)).foldl dH []=dH t y):=by show _=_;rw[PH M,List.foldl_append,E,Z];simp[List.getD,M]
   have b9:d_ t:=by rw[E];exact AY _ _ List.Pairwise.nil
   have e5:y.texts.length<=1000:=by rw[Z];simp only[List.getD,M,PE,QL];exact d5 _ (PL M)
   rw[<-E] at f a4;rw[<-Z] at i a5;have z:=Kz f;have zr:=f.kb.size;have e6:Hid (p_ wr (λb=>s<b) d t):=by
    obtain⟨_,a9,g7,ev,G⟩:=dE.runs f.own f.pack (K_.refl _);simp only[Qm,true_and] at ev;rw[ev.1];exact G
   have e7:Hid (∀W,K_ wr W->Calls prog 37 #[.slice d t.length l,.agg #[.string y.name,.bool y.over,.bool y.fail,.string y.text,.b y.at',.b y.Zq,.slice D y.texts.length N]] W λe w'=>∃v,e=.returned v/\NS W w' (λb=>s<b) v (dH t y)/\K_ W w'):=λW hW=>Lu W d l t y D N A7 e5 b9 (λb=>s<b) (λb x=>by have:=hW.size;omega) (e6.o.kept hW) (a5.kept hW) b8
   have c0:wr.cell? ⟨b,o+k*7+0,none⟩=some (.string y.name):=i 0 _ rfl;have c1:wr.cell? ⟨b,o+k*7+1,none⟩=some (.bool y.over):=i 1 _ rfl;have c2:wr.cell? ⟨b,o+k*7+2,none⟩=some (.bool y.fail):=i 2 _ rfl;have c3:wr.cell? ⟨b,o+k*7+3,none⟩=some (.string y.text):=i 3 _ rfl;have c4:wr.cell? ⟨b,o+k*7+4,none⟩=some (.b y.at'):=i 4 _ rfl;have c5:wr.cell? ⟨b,o+k*7+5,none⟩=some (.b y.Zq):=i 5 _ rfl;have c6:wr.cell? ⟨b,o+k*7+6,none⟩=some (.slice D y.texts.length N):=i 6 _ rfl;rw[Qp] at c0;have m1:=f.runs;have C:=f.row.lt;clear i Z E b9 f a5 b8;have g8:(k:Int)<(R.length:Int):=A7;have c7:Hid (∀w',K_ wr w'->(λw'=>w'.cell? ⟨s,1,none⟩=some (.slice d t.length l)/\w'.cell? ⟨b,o+k*7,none⟩=some (.string y.name)/\w'.cell? ⟨b,o+k*7+1,none⟩=some (.bool y.over)/\w'.cell? ⟨b,o+k*7+2,none⟩=some (.bool y.fail)/\w'.cell? ⟨b,o+k*7+3,none⟩=some (.string y.text)/\w'.cell? ⟨b,o+k*7+4,none⟩=some (.b y.at')/\w'.cell? ⟨b,o+k*7+5,none⟩=some (.b y.Zq)/\w'.cell? ⟨b,o+k*7+6,none⟩=some (.slice D y.texts.length N)) w'):=λw' B=>⟨(B.cell C).trans m1,(B.cell x).trans c0,(B.cell x).trans c1,(B.cell x).trans c2,(B.cell x).trans c3,(B.cell x).trans c4,(B.cell x).trans c5,(B.cell x).trans c6⟩
   go_wp2
   refine Qk.region C9 (λw'=>w'.cell? ⟨s,1,none⟩=some (.slice d t.length l)/\w'.cell? ⟨b,o+k*7,none⟩=some (.string y.name)/\w'.cell? ⟨b,o+k*7+1,none⟩=some (.bool y.over)/\w'.cell? ⟨b,o+k*7+2,none⟩=some (.bool y.fail)/\w'.cell? ⟨b,o+k*7+3,none⟩=some (.string y.text)/\w'.cell? ⟨b,o+k*7+4,none⟩=some (.b y.at')/\w'.cell? ⟨b,o+k*7+5,none⟩=some (.b y.Zq)/\w'.cell? ⟨b,o+k*7+6,none⟩=some (.slice D y.texts.length N)) 8 ⟨m1,c0,c1,c2,c3,c4,c5,c6⟩ λH=>?_;refine ax 0 H ?_;refine ae 4 H ?_;refine ae 5 H ?_;refine aD 6 λa6 O=>?_;go_simp
   go_at_call 37
   refine (e7.o _ E8).mono ?_;rintro e w2 ⟨v2,rfl,e8,e9⟩;have I:K_ wr w2:=K_.trans E8 e9;have z2:=I.size;obtain⟨wy,f0,c8,c9,a7,d0⟩:=e8;have zy:=c8.size;have d1:A.heap.size<=wy.heap.size:=Nat.le_trans zr (Nat.le_trans (Nat.le_of_eq D8) zy);have d2:=gX (base':=A.heap.size) a7 d1;obtain⟨f1,f2,rfl⟩:=aG a7;have f3:=Kz d2;have f4:=Kz (d0.kept c9);have a8:=z.o.row.kept I;obtain⟨⟨_,g9⟩,h0⟩:=a8.row.at (i:=1) A7;have d3:=Kz a8;clear d2 a7 d0 a8 c8 c9 zy d1;dsimp only;refine O.out _ _ (λ_=>c7.o w2 I) ?_;clear O a6 H;have H:=c7.o w2 I;try simp only[upP]
   refine ae 7 H ?_;refine au 8 λa6 O=>?_;go_simp
   refine af O (λG=>QK rfl G) ?_;clear O a6;refine aF ?_;go_wp2
   go_roundw
   case rel=>exact⟨k+1,f1,f2,f0,A7,C8,by rw[e4.o];exact⟨(z.o.kb.trans (Xj.ak I)).setCell (Pw _) (PZ _) _,d3.o.set _,by rw[Xk A7,I.cell z.o.row.lt];exact z.o.Kj,bB d3.o.row A7 _,eQ (p:=⟨s,1,none⟩) f3.o e3 _,f4.o.set (λb G=>A7) _⟩⟩
   case measure=>simp[intOf];omega
  .have f5:k=R.length:=A7;subst f5;rw[Qc] at f a4;obtain⟨t,E⟩:=aj (R.foldl dH []);rw[<-E] at f a4;have m0:=f.Kj;have m1:=f.runs;have P:=b7.o.block (f.kb.block _ b7.o.lt A7);obtain⟨⟨_,t0⟩,h1⟩:=P.row.at (i:=0) A7;obtain⟨⟨_,t1⟩,h3⟩:=P.row.at (i:=1) A7;have⟨f6,z⟩:=aJ P f;have C:=f.row.lt;have h4:=P.lt;clear P f;go_wp2
   have f7:=PD wr w.heap.size 0 [.slice n Kj.length q,.slice d t.length l] (f6.o.row.there (o:=0) (m:=2) (Pw _));have hO:=eQ (eQ z.o.own (p:=⟨w.heap.size,0,none⟩) (by show w.heap.size<_;omega) (.slice n Kj.length q)) (p:=⟨w.heap.size,1,none⟩) (by show w.heap.size<_;omega) (.slice d t.length l);have f8:=Ky e1.o z.o.kb a3.o A8;have f9:=eQ (eQ f8 (p:=⟨w.heap.size,0,none⟩) (by show w.heap.size<_;omega) (.slice n Kj.length q)) (p:=⟨w.heap.size,1,none⟩) (by show w.heap.size<_;omega) (.slice d t.length l);have d4:=(z.o.pack.set (c:=w.heap.size) (p:=0) (λb G=>A7) (.slice n Kj.length q)).set (c:=w.heap.size) (p:=1) (λb G=>A7) (.slice d t.length l);subst E;refine Zx [.slice n Kj.length q,.slice d (R.foldl dH []).length l] _ results17 rfl f7 underlying68 rfl Tryz.GM rfl ⟨n,q,d,l,xs,rfl,gX f9 A7,gX hO A7,⟨d4.1,λL hi=>by obtain⟨D,xc,e,g0,h2,g1⟩:=d4.2 L hi;exact⟨D,xc,e,g0,h2,λad e=>by have:=g1 ad e;omega⟩⟩,?_⟩;exact ((z.o.kb.kept K1 A7).setCell (Pw _) _).setCell (Pw _) _
theorem DC{a:QX}{x:QY}(K:K_ (w.alloc (.cells #[x] t)) a):a.cell? ⟨w.heap.size,0,none⟩=some x:=
 (K.cell A9).trans (X_ w #[x] t 0 _ rfl)
theorem zt{α:Type}(p q:α->Bool)(h:∀x,¬(p x=true/\q x=true)):∀l:List α,(l.filter p).length+(l.filter q).length<=l.length
 |[]=>Pw _
 |x :: l=>by
  have e:=zt p q h l;have d:=h x;simp only[List.filter_cons];by_cases b:p x=true
  .have a:¬q x=true:=λa=>d ⟨b,a⟩
   rw[QI b,QJ a,Qn,Qn];omega
  .rw[QJ b];by_cases a:q x=true
   .rw[QI a,Qn,Qn];omega
   .rw[QJ a,Qn];omega
theorem KJ(l:List Q_)(r:Q_):(dH l r).length<=l.length+1:=by
 unfold dH;rw[Qi,Qn];have:=zt (λx:Q_=>Op.bytesLess x.name.toList r.name.toList) (λx:Q_=>Op.bytesLess r.name.toList x.name.toList) (λx h=>fC h.1 h.2) l;omega
theorem Be :∀(l t:List Q_),(l.foldl dH t).length<=t.length+l.length
 |[],_=>Pw _
 |x :: l,t=>by
  have a:=Be l (dH t x);have b:=KJ t x;show (l.foldl dH (dH t x)).length<=_;rw[Qn];omega
theorem za(R:List Q_)(k:Nat):((R.take k).foldl dH []).length<=R.length:=by
 have a:=Be (R.take k) [];have b:(R.take k).length<=R.length:=F3;simp only[List.length_nil] at a;omega
variable {b:Nat}
theorem aH.sets :∀(vs:List QY)(p:Nat){w:QX},aH w b t n->aH (w.setCells b p vs) b t n
 |[],_,_,h=>h
 |v :: r,p,_,h=>by rw[World.setCells];exact aH.sets r (p+1) (h.set v)
theorem vG{a:QW}{cap:Nat}{l:List QV}(h:w.ownsRow base t 1 (.slice a n cap) n (l.map Value.string)):eY w t a l/\(a=none->cap=0)/\∀b:Addr,a=some b->base<=b.block:=by
 have k:n=l.length:=by have:=h.1;simp at this;omega
 rcases h.2 with⟨e,m⟩|⟨g,p,c,e,d,f,q,_,_,_⟩
 .simp only[Qm] at e;obtain⟨rfl,_,rfl⟩:=e;refine⟨.inl (PQ.1 A7),λ_=>rfl,λ_ e=>by cases e⟩
 .simp only[Qm] at e;obtain⟨rfl,_,rfl⟩:=e;refine⟨.inr ⟨g,c,_,rfl,f,λi j=>?_⟩,λe=>(by cases e),λb e=>by cases e;exact d⟩;have:=h.cells (g:=g) rfl i (.string (l.getD i ByteArray.empty)) (by simp[List.getD,j]);rw[Qo,Qb] at this;exact this
structure But (S:Nat->Prop)(w w':QX):Prop where
 os:w'.os=w.os
 tape:w'.tape=w.tape
 output:w'.output=w.output
 size:w.heap.size<=w'.heap.size
 block:∀b,b<w.heap.size->¬S b->w'.heap[b]? =w.heap[b]?
section
variable {S:Nat -> Prop}{w w' w'' wz:QX}
theorem But.ak(h:K_ w w'):But S w w':=⟨h.os,h.tape,h.output,h.size,λb c _=>h.block b c⟩
theorem But.aI{row:Option Nat}(h:w.grownBy w' row)(c:∀b,row=some b->S b):But S w w':=⟨h.os,h.tape,h.output,h.size,λb d e=>h.block b d λf=>e (c b f.symm)⟩
theorem But.trans(h:But S w w')(k:But S w' w''):But S w w'':=⟨k.os.trans h.os,k.tape.trans h.tape,k.output.trans h.output,Pz h.size k.size,λb c d=>(k.block b (Px c h.size) d).trans (h.block b c d)⟩
theorem But.set(h:But S w w'){p:Addr}(c:S p.block)(v:QY):But S w (w'.setCell p v):=⟨h.os,h.tape,h.output,by rw[size_setCell];exact h.size,λd e b=>by rw[Below.heap_setCell _ _ _ _ λf=>b (by rw[f];exact c)];exact h.block d e b⟩
theorem But.mono{a:Nat->Prop}(h:But S w w')(d:∀b,b<w.heap.size->S b->a b):But a w w':=⟨h.os,h.tape,h.output,h.size,λb c e=>h.block b c λf=>e (d b c f)⟩
theorem But.kept(h:But S w w')(k:K_ wz w)(d:∀b,S b->wz.heap.size<=b):K_ wz w':=
 ⟨h.os.trans k.os,h.tape.trans k.tape,h.output.trans k.output,Pz k.size h.size,λb c=>(h.block b (Px c k.size) λe=>by have:=d b e;omega).trans (k.block b c)⟩
theorem But.cell(h:But S w w'){o:Nat}(c:b<w.heap.size)(d:¬S b):w'.cell? ⟨b,o,none⟩=w.cell? ⟨b,o,none⟩:=PO (w:=w) (h.block b c d)
theorem But.row(h:But S w w')(a:aH w b t n)(d:¬S b):aH w' b t n:=a.block (h.block b a.lt d)
theorem But.range(h:But S w w'){o:Nat}(c:aH w b t n)(d:¬S b){cs:List QY}(e:w.rangeAt b o cs):w'.rangeAt b o cs:=λj v i=>(h.cell c.lt d).trans (e j v i)
theorem But.owns(h:But S w w'){e:TypeId}{v:QY}(a:w.ownsRow base e size v n xs)(d:∀b,v.ownBlock=some b->¬S b):w'.ownsRow base e size v n xs:=by
 refine⟨a.1,?_⟩;rcases a.2 with f|⟨g,i,j,rfl,k,c,rest⟩
 .exact .inl f
 .exact .inr ⟨g,i,j,rfl,k,by rw[h.block g (aP c) (d g rfl)];exact c,rest⟩
end
def bu(w:QX)(b:Nat)(t:TypeId):Prop:=∃cur fr,w.heap[b]? =some (Obj.cells cur t fr)
theorem aH.type(h:aH w b t n):bu w b t:=let ⟨cur,h1,_⟩:=h;⟨cur,_,h1⟩
theorem Y_{e:TypeId}{v:QY}(h:w.ownsRow base e size v n xs)(a:v.ownBlock=some b):bu w b e:=by
 rcases h.2 with⟨rfl,_⟩|⟨g,f,c,rfl,_,d,_⟩
 .cases a
 .simp only[Value.ownBlock,Ql] at a;subst a;exact⟨c,_,d⟩
theorem aN{c:Nat}{u:TypeId}(h:bu w b t)(k:bu w c u)(d:t≠u):b≠c:=by
 rintro rfl;obtain⟨f,i,e⟩:=h;obtain⟨j,l,a⟩:=k;rw[e] at a;simp only[Ql,Obj.cells.injEq] at a;exact d a.2.1
structure Zk where
 tb:Nat
 r:Q_
 cost:Int
 steps:List Xq
 sa:QW
 sc:Nat
 op:Nat
 tv:QY
 qv:QY
 qs:List QY
 bl:QV
def Zk.cells(t:Zk):List QY:=[.string t.r.name,.bool t.r.over,.bool t.r.fail,.string t.r.text,.b t.r.at',.b t.r.Zq,t.tv,.b t.cost,.slice t.sa t.steps.length t.sc,.b (t.op:Int),t.qv,.string t.bl]
def Zk.ptr(t:Zk):QY:=.h t.tb
def Zk.own(t:Zk):List Nat:=t.tv.ownBlock.toList++t.qv.ownBlock.toList
def yg(b:Nat):QY:=.h b
structure lC (base:Nat)(w:QX)(t:Zk):Prop where
 row:aH w t.tb 131 12
 rng:w.rangeAt t.tb 0 t.cells
 txt:w.ownsRow base 9 1 t.tv t.r.texts.length (t.r.texts.map Value.string)
 ask:w.ownsRow base 9 1 t.qv t.qs.length t.qs
 low:base<=t.tb
theorem lC.eZ{t:Zk}(h:lC base w t){x:Nat}(a:x∈t.own):bu w x 9/\base<=x/\x<w.heap.size:=by
 unfold Zk.own at a;rcases PK.1 a with a|a
 .have e:=Qe.1 a;exact⟨Y_ h.txt e,h.txt.lt x e⟩
 .have e:=Qe.1 a;exact⟨Y_ h.ask e,h.ask.lt x e⟩
variable {S:Nat -> Prop}
theorem lC.but{t:Zk}(h:lC base w t)(k:But S w w')(d:¬S t.tb)(h2:∀x∈t.own,¬S x):lC base w' t:=
 ⟨k.row h.row d,k.range h.row d h.rng,k.owns h.txt λb c=>h2 b (PK.2 (.inl (Qe.2 c))),k.owns h.ask λb c=>h2 b (PK.2 (.inr (Qe.2 c))),h.low⟩
def asIs(v:QY):Option (DataW QY×List MemPlace):=some (.held v,[])
def cB(s:QV):Lit:=.string s.data.toList
def Qj(ts:List Zk):List Q_:=ts.map (·.r)
structure dm where
 wo:QX
 K:Nat->Prop
 ps:List (Nat×QV)
 I:Nat->Prop
def dm.no(w:QX):dm:=⟨w,λ_=>False,[],λ_=>False⟩
structure Fen (G:dm)(w:QX)(bb mb:Nat)(ts:List Zk)(f:QV->QY):Prop where
 size:G.wo.heap.size<=w.heap.size
 lt:∀k,G.K k->k<G.wo.heap.size
 same:∀k,G.K k->w.heap[k]? =G.wo.heap[k]?
 nb:¬G.K bb
 nm:¬G.K mb
 nt:∀t∈ts,¬G.K t.tb/\∀x∈t.own,¬G.K x
 nf:∀s x,(f s).ownBlock=some x->¬G.K x
 has:∀p∈G.ps,∃t∈ts,t.tb=p.1/\t.r.name=p.2
variable {mb:Nat}
theorem Fen.but{G:dm}{bb:Nat}{ts:List Zk}{f:QV->QY}(h:Fen G w bb mb ts f)(k:But S w w')(d:∀b,S b->¬G.K b):Fen G w' bb mb ts f:=
 ⟨Pz h.size k.size,h.lt,λb c=>(k.block b (Px (h.lt b c) h.size) λe=>d b e c).trans (h.same b c),h.nb,h.nm,h.nt,h.nf,h.has⟩
theorem Fen.far{G:dm}{bb:Nat}{ts:List Zk}{f:QV->QY}(h:Fen G w bb mb ts f){x:Nat}(c:w.heap.size<=x):¬G.K x:=λb=>by
 have d:=h.lt x b;have e:=h.size;omega
theorem Fen.no{bb:Nat}{ts:List Zk}{f:QV->QY}(h:w.heap.size<=w'.heap.size):Fen (dm.no w) w' bb mb ts f:=
 ⟨h,λ_ e=>e.elim,λ_ e=>e.elim,id,id,λ_ _=>⟨id,λ_ _=>id⟩,λ_ _ _=>id,λ_ h=>(by cases h)⟩
structure BM (G:dm)(Kq:List Qz)(wz w:QX)(bb:Nat)(a:QW)(cap:Nat)(rd:QW)(rn rc:Nat)(mb mx:Nat)(ts:List Zk)(d:QW)(dc:Nat)(f:QV->QY)(ws:QV->List Nat):Prop where
 kw:K_ wz w
 row:aH w bb 106 6
 c0:w.cell? ⟨bb,0,none⟩=some (.slice a Kq.length cap)
 c1:w.cell? ⟨bb,1,none⟩=some (.func (.func 82) #[] #[])
 c2:w.cell? ⟨bb,2,none⟩=some (.slice rd rn rc)
 c3:w.cell? ⟨bb,3,none⟩=some (.slice d ts.length dc)
 c4:w.cell? ⟨bb,4,none⟩=some (.func (.func 41) #[] #[])
 c5:w.cell? ⟨bb,5,none⟩=some (.map (some mb))
 low:wz.heap.size<=bb
 items:w.ownsRow wz.heap.size 123 1 (.slice d ts.length dc) ts.length (ts.map Zk.ptr)
 fZ:∀t∈ts,lC wz.heap.size w t
 act:∀t∈ts,Kk Kq t.r.name=some ⟨t.cost,t.steps⟩/\Steps wz t.sa t.steps
 asc:d_ (Qj ts)
 tbs:(ts.map (·.tb)).Nodup
 sep:ts.Pairwise λt u=>∀x∈t.own,x∉u.own
 Av:∀t∈ts,t.own.Nodup
 map:∃N D,N<=mx/\w.ownsMap prog 9 asIs mb N D/\∀s:QV,s.size<=maxLen->D.atKey (cB s) (.held J6)=.held (f s)
 CW:wz.heap.size<=mb
 jo:∀s,w.ownsRow wz.heap.size 123 1 (f s) (ws s).length ((ws s).map yg)
 Ar:∀s s',s≠s'->∀x,(f s).ownBlock=some x->(f s').ownBlock≠some x
 CX:∀s x,(f s).ownBlock=some x->(Value.slice d ts.length dc).ownBlock≠some x
 qb:∀t∈ts,t.qs.length<=5*mx
 oth:Fen G w bb mb ts f
 gi:∀x,(Value.slice d ts.length dc).ownBlock=some x->¬(G.I x/\G.K x)
theorem iW{N:Nat}{D:DataW QY}(h:w.ownsMap prog 9 asIs mb N D)(k:But S w w')(d:¬S mb):w'.ownsMap prog 9 asIs mb N D:=by
 obtain⟨e,f,b,F,i,j⟩:=h;exact⟨e,f,by rw[k.block mb (aP b) d];exact b,F,i,j⟩
theorem iP{N:Nat}{D:DataW QY}(h:w.ownsMap prog 9 asIs mb N D)(k:bu w b t):b≠mb:=by
 rintro rfl;obtain⟨d,e,c,_⟩:=h;obtain⟨f,i,a⟩:=k;rw[c] at a;cases a
section
variable {G:dm}{Kq:List Qz}{wz w w':QX}{bb:Nat}{a:QW}{cap:Nat}{rd:QW}{rn rc:Nat}{mb mx:Nat}{ts:List Zk}{d:QW}{dc:Nat}{f:QV -> QY}{ws:QV -> List Nat}
theorem BM.but(h:BM G Kq wz w bb a cap rd rn rc mb mx ts d dc f ws)(k:But S w w')(l:∀b,S b->wz.heap.size<=b)(c:¬S bb)(h2:¬S mb)(m:∀b,(Value.slice d ts.length dc).ownBlock=some b->¬S b)(n:∀s b,(f s).ownBlock=some b->¬S b)(j:∀t∈ts,¬S t.tb/\∀x∈t.own,¬S x)(p:∀b,S b->¬G.K b):BM G Kq wz w' bb a cap rd rn rc mb mx ts d dc f ws:=by
 have e:=h.row.lt;refine⟨k.kept h.kw l,k.row h.row c,(k.cell e c).trans h.c0,(k.cell e c).trans h.c1,(k.cell e c).trans h.c2,(k.cell e c).trans h.c3,(k.cell e c).trans h.c4,(k.cell e c).trans h.c5,h.low,k.owns h.items m,λt i=>(h.fZ t i).but k (j t i).1 (j t i).2,h.act,h.asc,h.tbs,h.sep,h.Av,?_,h.CW,λs=>k.owns (h.jo s) (n s),h.Ar,h.CX,h.qb,h.oth.but k p,h.gi⟩;obtain⟨N,D,q,r,v⟩:=h.map;exact⟨N,D,q,iW r k h2,v⟩
theorem BM.kept(h:BM G Kq wz w bb a cap rd rn rc mb mx ts d dc f ws)(k:K_ w w'):BM G Kq wz w' bb a cap rd rn rc mb mx ts d dc f ws:=
 h.but (S:=λ_=>False) (But.ak k) (λ_ h=>h.elim) id id (λ_ _=>id) (λ_ _ _=>id) (λ_ _=>⟨id,λ_ _=>id⟩) λ_ h=>h.elim
theorem BM.more{c:Nat}(h:BM G Kq wz w bb a cap rd rn rc mb mx ts d dc f ws)(e:mx<=c):BM G Kq wz w bb a cap rd rn rc mb c ts d dc f ws:=
 ⟨h.kw,h.row,h.c0,h.c1,h.c2,h.c3,h.c4,h.c5,h.low,h.items,h.fZ,h.act,h.asc,h.tbs,h.sep,h.Av,(by obtain⟨N,D,j,k⟩:=h.map;exact⟨N,D,Pz j e,k⟩),h.CW,h.jo,h.Ar,h.CX,λt m=>Pz (h.qb t m) (Nat.mul_le_mul_left 5 e),h.oth,h.gi⟩
theorem bR{α:Type}{l:List α}{i:Nat}(h:i<l.length):l[i]∈l:=PL h
theorem qF{t':Zk}{i:Nat}(_hi:i<ts.length):Qj (ts.set i t')= (Qj ts).set i t'.r:=by simp[Qj,List.map_set]
theorem BD{l:List Q_}{i:Nat}{b:Q_}(h:d_ l)(m:i<l.length)(c:b.name=l[i].name):d_ (l.set i b):=by
 unfold d_ at h⊢;rw[PM] at h⊢;intro p q d f k;rw[QE] at d f;rw[QU,QU];have:=h p q d f k
 split<;>split
 .omega
 .rename_i e _;subst e;rw[c];exact this
 .rename_i _ e;subst e;rw[c];exact this
 .exact this
theorem BM.turn(h:BM G Kq wz w bb a cap rd rn rc mb mx ts d dc f ws){i:Nat}(l:i<ts.length)(k:But S w w')(z:∀b,S b->b=ts[i].tb\/b∈ts[i].own){t':Zk}(X:lC wz.heap.size w' t')(E:t'.tb=ts[i].tb)(J:t'.r.name=ts[i].r.name)(L:t'.cost=ts[i].cost)(Y:t'.steps=ts[i].steps)(Z:t'.sa=ts[i].sa)(M:∀x∈t'.own,x∈ts[i].own\/w.heap.size<=x)(hn:t'.own.Nodup)(a0:t'.qs.length<=5*mx):BM G Kq wz w' bb a cap rd rn rc mb mx (ts.set i t') d dc f ws:=by
 have A:=h.row.lt;have s:=h.fZ ts[i] (bR l);have t:(ts.set i t').length=ts.length:=QE ..;have N:∀{b:Nat}{u:TypeId},bu w b u->u≠131->u≠9->¬S b:=λm h1 h2 p=>by
  rcases z _ p with e|e
  .exact aN m s.row.type h1 e
  .exact aN m (s.eZ e).1 h2 rfl
 have hm:=h.map;obtain⟨a1,a2,hN,O,hf⟩:=hm;have a3:¬S mb:=λp=>by
  rcases z _ p with e|e
  .exact iP O s.row.type e.symm
  .exact iP O (s.eZ e).1 rfl
 have v:¬S bb:=N h.row.type A8 A8;have other:∀(j:Nat)(c:j<ts.length),j≠i->¬S ts[j].tb/\∀x∈ts[j].own,¬S x:=λj c q=>by
  have R:=h.fZ ts[j] (bR c);refine⟨λp=>?_,λx n p=>?_⟩
  .rcases z _ p with e|e
   .have T:=PM.1 h.tbs;rcases Nat.lt_or_gt_of_ne q with y|y
    .have:=T j i (by simpa using c) (by simpa using l) y;simp at this;exact this e
    .have:=T i j (by simpa using l) (by simpa using c) y;simp at this;exact this e.symm
   .exact aN R.row.type (s.eZ e).1 A8 rfl
  .rcases z _ p with e|e
   .exact aN (R.eZ n).1 s.row.type A8 e
   .have B:=PM.1 h.sep;rcases Nat.lt_or_gt_of_ne q with y|y
    .exact B j i c l y x n e
    .exact B i j l c y x e n
 have mem:∀u∈ts.set i t',u=t'\/∃(j:Nat)(c:j<ts.length),j≠i/\u=ts[j]:=λu m=>by
  obtain⟨j,c,rfl⟩:=PN m;rw[t] at c;rw[QU]
  split
  .exact .inl rfl
  .rename_i e;exact .inr ⟨j,c,Ne.symm e,rfl⟩
 have a4:∀b,S b->wz.heap.size<=b:=λb p=>by
  rcases z b p with e|e
  .rw[e];exact s.low
  .exact (s.eZ e).2.1
 have a5:∀b,S b->¬G.K b:=λb p=>by
  rcases z b p with e|e
  .rw[e];exact (h.oth.nt _ (bR l)).1
  .exact (h.oth.nt _ (bR l)).2 b e
 have a6:Fen G w' bb mb (ts.set i t') f:=by
  have C:=h.oth.but k a5;refine⟨C.size,C.lt,C.same,C.nb,C.nm,λu m=>?_,C.nf,λF D=>?_⟩;rotate_left
  .obtain⟨u,m,U,H⟩:=h.oth.has F D;obtain⟨j,c,rfl⟩:=PN m;by_cases e:j=i
   .subst e;exact⟨t',List.mem_set c _,by rw[E];exact U,by rw[J];exact H⟩
   .refine⟨ts[j],?_,U,H⟩;have L:(ts.set i t')[j]'(by rw[t];exact c)=ts[j]:=by rw[QU,QJ (Ne.symm e)]
    rw[<-L];exact PL _
  rcases mem u m with rfl|⟨j,c,q,rfl⟩
  .refine⟨by rw[E];exact (h.oth.nt _ (bR l)).1,λx n=>?_⟩;rcases M x n with g|g
   .exact (h.oth.nt _ (bR l)).2 x g
   .exact h.oth.far g
  .exact h.oth.nt _ (bR c)
 refine⟨k.kept h.kw a4,k.row h.row v,(k.cell A v).trans h.c0,(k.cell A v).trans h.c1,(k.cell A v).trans h.c2,by rw[t];exact (k.cell A v).trans h.c3,(k.cell A v).trans h.c4,(k.cell A v).trans h.c5,h.low,?_,?_,?_,?_,?_,?_,?_,⟨a1,a2,hN,iW O k a3,hf⟩,h.CW,λV=>k.owns (h.jo V) λb e=>N (Y_ (h.jo V) e) A8 A8,h.Ar,by rw[t];exact h.CX,λu m=>by rcases mem u m with rfl|⟨j,c,q,rfl⟩;exact a0;exact h.qb _ (bR c),a6,by rw[t];exact h.gi⟩
 .have e:(ts.set i t').map Zk.ptr=ts.map Zk.ptr:=by
   rw[List.map_set];have P:t'.ptr= (ts.map Zk.ptr)[i]'(by simpa using l):=by simp[Zk.ptr,E]
   rw[P,List.set_getElem_self]
  rw[t,e];exact k.owns h.items λb e=>N (Y_ h.items e) A8 A8
 .intro u m;rcases mem u m with rfl|⟨j,c,q,rfl⟩
  .exact X
  .exact (h.fZ _ (bR c)).but k (other j c q).1 (other j c q).2
 .intro u m;rcases mem u m with rfl|⟨j,c,q,rfl⟩
  .rw[J,L,Y,Z];exact h.act _ (bR l)
  .exact h.act _ (bR c)
 .rw[qF l];exact BD h.asc (by simpa[Qj] using l) (by simp[Qj,J])
 .have e:(ts.set i t').map (·.tb)=ts.map (·.tb):=by
   rw[List.map_set];have P:t'.tb= (ts.map (·.tb))[i]'(by simpa using l):=by simp[E]
   rw[P,List.set_getElem_self]
  rw[e];exact h.tbs
 .rw[PM];have B:=PM.1 h.sep;intro F W D I Q x n;rw[t] at D I;rw[QU] at n⊢
  split at n
  .rename_i e
   subst e;rw[QJ A7];rcases M x n with g|g
   .exact B i W l I Q x g
   .intro H;have:=((h.fZ _ (bR I)).eZ H).2.2;omega
  .split
   .rename_i e
    subst e;intro g;rcases M x g with g|g
    .exact B F i D l Q x n g
    .have:=((h.fZ _ (bR D)).eZ n).2.2;omega
   .exact B F W D I Q x n
 .intro u m;rcases mem u m with rfl|⟨j,c,q,rfl⟩
  .exact hn
  .exact h.Av _ (bR c)
end
def CE(W:bf)(r:Q_)(bl:QV):Prop:=
 (bl= ⟨#[]⟩/\(r.over=true->r.fail=true->r.text=ou\/∃A,W r.name=some A/\(stepOf A r.at').fin=true))\/
 (r.over=true/\r.fail=true/\(∃A,W r.name=some A/\(stepOf A r.at').fin=false/\bl∈(stepOf A r.at').asks)/\r.text= (⟨#[98,101,108,111,119,32]⟩:QV)++bl)
variable {W:bf}{r:Q_}
theorem CE.open{b:QV}(h:CE W r b)(c:r.over=false):b= ⟨#[]⟩:=by
 rcases h with h|⟨h,_⟩
 .exact h.1
 .rw[c] at h;cases h
theorem CE.still{a:QV}(c:a= ⟨#[]⟩)(d:r.over=false):CE W r a:=.inl ⟨c,λh=>by rw[d] at h;cases h⟩
def xQ(W:bf)(σ:Env)(r:Q_)(qs:List QY):Prop:=∃L,kY W σ r L/\qs=L.map Value.string
theorem xQ.mono{σ:Env}{m:QV}{a:List QY}(h:xQ W σ r a)(c:aT W σ m):xQ W (doX W σ m) r a:=by
 obtain⟨L,e,f⟩:=h;exact⟨L,e.mono c,f⟩
theorem xQ.unit{σ:Env}{a:List QY}(h:xQ W σ r a)(c:bg W σ r):xQ W σ (Xx W σ r).1 (a++(Xx W σ r).2.map Value.string):=by
 obtain⟨L,d,e⟩:=h;exact⟨_,d.unit c,by rw[e,QM]⟩
theorem xQ.still{σ:Env}{a:List QY}(b:a=[])(c:r=Q_.fresh r.name):xQ W σ r a:=⟨[],by rw[c];exact kY.start _,b⟩
def Zk.bq(t:Zk):QV×List QY:=(t.bl,t.qs)
structure BS (Kq:List Qz)(ts:List Zk)(ws:QV->List Nat):Prop where
 good:fU Kq (Qj ts)
 op:∀t∈ts,t.op= (pend (Kk Kq) (Qq (Qj ts)) t.r).length
 wt:∀s,∀t∈ts,(t.tb∈ws s↔s∈pend (Kk Kq) (Qq (Qj ts)) t.r)
 wn:∀s,(ws s).Nodup
 ww:∀s b,b∈ws s->∃t∈ts,t.tb=b
 bl:∀t∈ts,CE (Kk Kq) t.r t.bl
 qs:∀t∈ts,xQ (Kk Kq) (Qq (Qj ts)) t.r t.qs
def kP(w:QX)(xs:List QY)(l:List Qz):Prop:=
 xs.length=l.length/\∀i,i<l.length->∃tb cur fr,xs[i]? =some (.h tb)/\w.heap[tb]? =some (Obj.cells cur 131 fr)/\w.cell? ⟨tb,0,none⟩=some (.string (l.getD i Qz.zero).name)
theorem kP.kept{w w':QX}{xs:List QY}{l:List Qz}(h:kP w xs l)(k:K_ w w'):kP w' xs l:=
 ⟨h.1,λi c=>by
  obtain⟨b,d,e,f,a,j⟩:=h.2 i c;exact⟨b,d,e,f,by rw[k.block b (aP a)];exact a,(k.cell (aP a)).trans j⟩⟩
def u_(w:QX)(a:QW)(xs:List QY):Prop:=∀i,i<xs.length->∃b o,a=some ⟨b,o,none⟩/\b<w.heap.size/\∀j u,xs[j]? =some u->w.cell? ⟨b,o+j,none⟩=some u
theorem u_.kept{w w':QX}{a:QW}{xs:List QY}(h:u_ w a xs)(k:K_ w w'):u_ w' a xs:=by
 intro i c;obtain⟨d,o,e,b,f⟩:=h i c;exact⟨d,o,e,Px b k.size,λj u l=>(k.cell b).trans (f j u l)⟩
theorem eP{w:QX}{base n:Nat}{t:TypeId}{a:QW}{cap:Nat}{xs:List QY}(h:w.ownsRow base t 1 (.slice a n cap) n xs):u_ w a xs:=by
 have f:xs.length=n:=by have:=h.1;omega
 rcases h.2 with⟨e,j⟩|⟨g,k,l,e,m,b,p,_,_,_⟩
 .exact λi c=>A7
 .simp only[Qm] at e;obtain⟨rfl,_,rfl⟩:=e;refine λi c=>⟨g,0,rfl,aP b,λq u d=>?_⟩
  have:=h.cells (g:=g) rfl _ _ d;rw[Qo] at this;exact this
theorem ym(w:QX)(tb:Nat)(n:QV)(a:w.cell? ⟨tb,0,none⟩=some (.string n)):
  Calls prog 41 #[.h tb] w λe w'=>e=.returned (.string n)/\w'=w:=by
 go_enter func41,ntmps41
 go_wp2
 go_ret
 exact⟨rfl,rfl⟩
theorem sO(w:QX)(g:Nat)(n:QV)(tb:Nat)(a:QV)(c:g<w.heap.size)(d:tb<w.heap.size)(b:w.cell? ⟨tb,0,none⟩=some (.string n))(f:w.cell? ⟨g,1,none⟩=some (.func (.func 41) #[] #[])):
  Calls prog 144 #[.h tb,.string a,.h g] w λe w'=>e=.returned (.b (pK n.toList a.toList))/\K_ w w':=by
 go_enter func144,ntmps144
 go_wp2_with fail
 refine (ym _ tb n b).mono ?_;rintro e w1 ⟨rfl,rfl⟩;go_wp2_with fail
 refine (vE _ n a).mono ?_;rintro e h ⟨rfl,rfl⟩;go_wp2
 go_ret
 exact⟨rfl,K_.refl _⟩
theorem Dy(w:QX)(g:Nat)(a:QW)(cap:Nat)(l:List Qz)(c:QV)(hl:l.length<=1048576)(Q:il l)(C:g<w.heap.size)(R:w.cell? ⟨g,1,none⟩=some (.func (.func 41) #[] #[]))(xs:List QY)(D:kP w xs l)(S:u_ w a xs):
  Calls prog 143 #[.slice a l.length cap,.string c,.func (.func 144) #[] #[.h g]] w
   λe w'=>Found l c.toList e/\K_ w w':=by
 have T:=Kz Q;clear Q;go_enter func143,ntmps143
 go_wp2
 go_loopw [9,10] (λH I wr=>∃i j:Nat,H=.b i/\I=.b j/\i<=j/\j<=l.length/\(∀t,t<i->Op.bytesLess (nameAt l t) c.toList=true)/\(∀t,j<=t->t<l.length->Op.bytesLess (nameAt l t) c.toList=false)/\K_ w wr) λH I _=>(intOf I).toNat-(intOf H).toNat
 case atStart=>exact⟨0,l.length,rfl,rfl,Py _,Pw _,λt U=>aS U,λt a0 V=>A7,K_.refl _⟩
 case round=>
  obtain⟨i,j,rfl,rfl,a6,W,p,q,d⟩:=hrel;have r:=Kz (And.intro p q);clear p q;by_cases a7:(i:Int)<j
  .obtain⟨h,X⟩:∃h:Nat,h= (i+j) / 2:=⟨_,rfl⟩;have J:h<l.length:=A7;have a1:i<=h:=A7;have a8:h<j:=A7;obtain⟨b,o,rfl,hb,s⟩:=S.kept d h (by rw[D.1];exact J);obtain⟨v,a2,fr,x,y,k⟩:=(D.kept d).2 h J;obtain⟨f,m⟩:=aj (l.getD h Qz.zero);rw[<-m] at k;have K:=Kz m;have L:=s _ _ x;have z:wr.cell? ⟨v,0,none⟩=some (.string f.name):=k;have M:=aP y;clear m s k x y;have a9:((i:Int)+(j:Int)) / 2= (h:Int):=A7;have HH:=Kz X;clear X;have N:g<wr.heap.size:=Px C d.size;have O:wr.cell? ⟨g,1,none⟩=some (.func (.func 41) #[] #[]):=by rw[d.cell C];exact R
   go_wp2_with fail
   refine (sO _ g f.name v c N M z O).mono ?_;rintro e w1 ⟨rfl,A⟩;have B:nameAt l h=f.name.toList:=by unfold nameAt;rw[<-K.o]
   have E:Hid (pK f.name.toList c.toList<0↔Op.bytesLess (nameAt l h) c.toList=true):=by rw[B];exact DU
   clear L z B;generalize pK f.name.toList c.toList=Y at *;have F:=d.trans A;clear d A;by_cases a3:Y<0
   .go_wp2
    go_roundw
    case rel=>
     obtain⟨p,q⟩:=r.o;refine⟨h+1,j,C8,rfl,A7,W,λt U=>?_,q,F⟩;have n:=E.o.1 a3;by_cases e:t=h
     .subst e;exact n
     .exact dX _ _ _ (T.o t h A7 J) n
    case measure=>simp[intOf];omega
   .go_wp2
    go_roundw
    case rel=>
     obtain⟨p,q⟩:=r.o;refine⟨i,h,rfl,C8,a1,A7,p,λt a0 V=>?_,F⟩;have n:Op.bytesLess (nameAt l h) c.toList=false:=by
      cases P:Op.bytesLess (nameAt l h) c.toList
      .rfl
      .have:=E.o.2 P;omega
     by_cases e:t=h
     .subst e;exact n
     .cases P:Op.bytesLess (nameAt l t) c.toList
      .rfl
      .rw[dX _ _ _ (T.o h t A7 V) P] at n;cases n
    case measure=>simp[intOf];omega
  .have a4:i=j:=A7;subst a4;have Z:Hid (Place l c.toList i):=⟨W,r.o.1,r.o.2⟩;clear r;by_cases G:i<l.length
   .obtain⟨b,o,rfl,hb,s⟩:=S.kept d i (by rw[D.1];exact G);obtain⟨v,a2,fr,x,y,k⟩:=(D.kept d).2 i G;obtain⟨f,m⟩:=aj (l.getD i Qz.zero);rw[<-m] at k;have K:=Kz m;have L:=s _ _ x;have z:wr.cell? ⟨v,0,none⟩=some (.string f.name):=k;have M:=aP y;clear m s k x y;have N:g<wr.heap.size:=Px C d.size;have O:wr.cell? ⟨g,1,none⟩=some (.func (.func 41) #[] #[]):=by rw[d.cell C];exact R
    have a5:(i:Int)<l.length:=A7;go_wp2_with fail
    refine (sO _ g f.name v c N M z O).mono ?_;rintro e w1 ⟨rfl,A⟩;have B:nameAt l i=f.name.toList:=by unfold nameAt;rw[<-K.o]
    have E:Hid (pK f.name.toList c.toList=0↔nameAt l i=c.toList):=by rw[B];exact AX
    clear L z B;generalize pK f.name.toList c.toList=Y at *;have F:=d.trans A;clear d A;go_wp2
    go_ret2
    refine⟨Found.mk i _ rfl Z.o ?_,F⟩;rw[<-E.o];simp[G]
   .have a5:¬(i:Int)<l.length:=A7;go_wp2
    go_ret2
    exact⟨Found.mk i false rfl Z.o (by simp;intro h;exact QK h G),d⟩
theorem AP(w:QX)(a:QW)(cap:Nat)(l:List Qz)(b:QV)(h:l.length<=1048576)(i:il l)(xs:List QY)(j:kP w xs l)(k:u_ w a xs):
  Calls prog 118 #[.agg #[.slice a l.length cap,.func (.func 41) #[] #[]],.string b] w
   λe w'=>Found l b.toList e/\K_ w w':=by
 have c:K_ w (w.alloc (.cells #[.slice a l.length cap,.func (.func 41) #[] #[]] 104)):=ai _ _;go_enter func118,ntmps118
 go_wp2_with fail
 refine (Dy _ w.heap.size a cap l b h i A9 A9 xs (j.kept c) (k.kept c)).mono ?_;rintro e w1 ⟨m,n⟩;obtain⟨p,q,rfl,d,f⟩:=m;have⟨r,s⟩:=aJ d f;clear d f;go_wp2
 go_ret2
 exact⟨Found.mk p q rfl r.o s.o,c.trans n⟩
def jv(ts:List Zk):List Qz:=ts.map λt=>⟨t.r.name,0,[]⟩
theorem eG(ts:List Zk):(jv ts).length=ts.length:=by simp[jv]
theorem jh{ts:List Zk}{i:Nat}(h:i<ts.length):((jv ts).getD i Qz.zero).name=ts[i].r.name:=by simp[jv,List.getD,h]
theorem uT{ts:List Zk}(h:d_ (Qj ts)):il (jv ts):=λi j e a=>by
 rw[eG] at a;unfold nameAt;rw[jh A7,jh a];have:=PM.1 h i j (by simp[Qj];omega) (by simpa[Qj] using a) e;unfold aQ at this;simpa[Qj] using this
section
variable {G:dm}{Kq:List Qz}{wz w w':QX}{bb:Nat}{a:QW}{cap:Nat}{rd:QW}{rn rc:Nat}{mb mx:Nat}{ts:List Zk}{d:QW}{dc:Nat}{f:QV -> QY}{ws:QV -> List Nat}
theorem BM.packed(h:BM G Kq wz w bb a cap rd rn rc mb mx ts d dc f ws):kP w (ts.map Zk.ptr) (jv ts):=
 ⟨by simp[jv],λi b=>by
  rw[eG] at b;have c:=h.fZ ts[i] (PL b);obtain⟨e,j,_⟩:=c.row;exact⟨ts[i].tb,e,_,by simp[b,Zk.ptr],j,by rw[jh b];exact c.rng 0 _ rfl⟩⟩
def KZ(ts:List Zk)(n:QV)(e:Ending):Prop:=(∃(i:Nat)(hi:i<ts.length),ts[i].r.name=n/\e=.returned ts[i].ptr)\/((∀t∈ts,t.r.name≠n)/\e=.returned (.pointer none))
theorem rQ(c:BM G Kq wz w bb a cap rd rn rc mb mx ts d dc f ws)(n:QV)(O:ts.length<=1048576):
  Calls prog 84 #[.h bb,.string n] w λe w'=>KZ ts n e/\K_ w w':=by
 have v:=c.c3;have E:=c.c4;have bz:=c.row.lt;have l:=eG ts;have h:=Kz c;clear c;go_enter func84,ntmps84
 go_wp2_with fail
 have m:=AP w d dc (jv ts) n A7 (uT h.o.asc) (ts.map Zk.ptr) h.o.packed (eP h.o.items);rw[l] at m;refine m.mono ?_;rintro e w1 ⟨⟨p,F,rfl,x,y⟩,q⟩;have⟨H,z,P⟩:=dC x y l;clear x y m l v E;have j:=h.o.kept q;have v:=j.c3;have Q:=j.row.lt;cases F
 .go_wp2
  go_ret
  refine⟨.inr ⟨λR I e=>?_,rfl⟩,q⟩;obtain⟨A,B,rfl⟩:=PN I;have J:=H.o;have K:¬(p<(jv ts).length/\nameAt (jv ts) p=n.toList):=λL=>by have:=z.o.2 L;cases this
  have s:nameAt (jv ts) A=n.toList:=by unfold nameAt;rw[jh B,e]
  have t:A<(jv ts).length:=by rw[eG];exact B
  have M:=Place.only (uT h.o.asc) J t s;rw[M] at t s;exact K ⟨t,s⟩
 .obtain⟨i,k⟩:=z.o.1 rfl;rw[eG] at i;have C:ts[p].r.name=n:=by unfold nameAt at k;rw[jh i] at k;exact toList_inj.1 k
  obtain⟨b,o,rfl,S,D⟩:=eP j.items p (by simpa using i);have T:w1.cell? ⟨b,o+p,none⟩=some ts[p].ptr:=D p _ (by simp[i]);have U:(p:Int)<(ts.length:Int):=A7;have N:=Kz C;clear C D k j;go_wp2
  go_ret
  exact⟨.inl ⟨p,i,N.o,rfl⟩,q⟩
theorem FT(w:QX)(n:QV)(a:n.size<=1000):
  Calls prog 101 #[.string n] w λe w'=>e=.returned (.agg #[.bool true,.string (yU n)])/\K_ w w':=by
 go_enter func101,ntmps101
 have b:¬9223372036854775807<3+n.size:=A7;go_wp2
 exact Zx [.bool true,.string (yU n)] _ results101 rfl (X_ w #[.bool true,.string (yU n)] 50) underlying50 rfl Tryz.ma rfl ⟨rfl,ai _ _⟩
def LQ(Kq:List Qz)(l:List Q_)(n:QV)(e:Ending):Prop:=
 ∃(f:Bool)(t:QV)(ok:Bool),e=.returned (.tuple #[.agg #[.bool f,.string t],.bool ok])/\bI (Kk Kq) (Qq l) n= (if ok=true then some ⟨f,t⟩ else none)/\(ok=false->∃r,Qq l n=some r/\f=r.fail/\t=r.text)
theorem nG(p:BM G Kq wz w bb a cap rd rn rc mb mx ts d dc f ws)(n:QV)(R:ts.length<=1048576)(S:n.size<=1000)(x:(∃t∈ts,t.r.name=n)\/Kk Kq n=none):
  Calls prog 57 #[.h bb,.string n] w λe w'=>LQ Kq (Qj ts) n e/\K_ w w':=by
 have y:K_ w (w.alloc (.cells #[.bool false,.string ⟨#[]⟩] 50)):=ai _ _;go_enter func57,ntmps57
 go_wp2_with fail
 refine (rQ (p.kept y) n R).mono ?_;rintro e w1 ⟨⟨i,z,A,rfl⟩|⟨J,rfl⟩,q⟩
 .obtain⟨t,b⟩:=aj (ts[i]);have B:=p.fZ ts[i] (PL z);rw[<-b] at B A;have s:=B.rng;have L:w.cell? ⟨t.tb,1,none⟩=some (.bool t.r.over):=s 1 _ rfl;have M:w.cell? ⟨t.tb,2,none⟩=some (.bool t.r.fail):=s 2 _ rfl;have N:w.cell? ⟨t.tb,3,none⟩=some (.string t.r.text):=s 3 _ rfl;have C:=B.row.lt;have D:Hid (∀w',K_ w w'->w'.cell? ⟨t.tb,1,none⟩=some (.bool t.r.over)/\w'.cell? ⟨t.tb,2,none⟩=some (.bool t.r.fail)/\w'.cell? ⟨t.tb,3,none⟩=some (.string t.r.text)):=λw' K=>⟨(K.cell C).trans L,(K.cell C).trans M,(K.cell C).trans N⟩
  have E:=Kz ((aH.made w #[.bool false,.string ⟨#[]⟩] 50).kept q);have c:=(y.trans q);obtain⟨T,U,V⟩:=D.o _ c;have⟨W,X⟩:=aJ A b;have O:ts[i].ptr=.h t.tb:=by rw[<-b];rfl
  rw[O];clear b A L M N s O;go_upto_region 4 with fail
  refine tu 17 D.o (c.drew) λj=>?_;have F:K_ w w1.drew:=c.drew;have k:=Kz (E.o.kept (a_ w1));generalize Y:w1.drew=Z at j F k⊢;clear Y T U V;refine ax 0 j ?_;refine ax 4 j ?_;refine ax 8 j ?_;refine ax 12 j ?_;obtain⟨⟨_,x0⟩,f0⟩:=k.o.row.at (i:=0) A8;obtain⟨⟨_,x1⟩,f1⟩:=k.o.row.at (i:=1) A8;have xz:=k.o.lt;refine au 16 λK l=>?_;go_simp
  refine l.out _ _ ?_ ?_
  .exact λ_=>D.o _ (dL (g:=w.heap.size) (Pw _) [.bool t.r.fail,.string t.r.text] 0 F)
  clear l K;try simp only[upP]
  refine au 17 λK l=>?_;go_simp
  refine af l (λh=>QK rfl h) ?_;clear l K;refine aF ?_;go_wp2_with fail
  have H:=PD Z w.heap.size 0 [.bool t.r.fail,.string t.r.text] (k.o.row.there (o:=0) (m:=2) (Pw _));refine bX [.bool t.r.fail,.string t.r.text] _ (.bool t.r.over) results57 rfl H underlying50 rfl Tryz.ma rfl rfl ?_;refine⟨⟨t.r.fail,t.r.text,t.r.over,rfl,?_⟩,dL (g:=w.heap.size) (Pw _) [.bool t.r.fail,.string t.r.text] 0 F⟩;have P:=(p.act ts[i] (PL z)).1;have I:=bO p.asc (Qu (PL z):ts[i].r∈Qj ts);rw[<-X.o,W.o] at P I;refine⟨by unfold bI;rw[P,I],λ_=>⟨t.r,I,rfl,rfl⟩⟩
 .have E:=Kz ((aH.made w #[.bool false,.string ⟨#[]⟩] 50).kept q);have c:=(y.trans q);have a0:=Kz J;clear J;go_wp2_with fail
  refine (FT w1 n S).mono ?_;rintro e w2 ⟨rfl,Q⟩;have v:=Kz (E.o.kept Q);obtain⟨⟨_,x0⟩,f0⟩:=v.o.row.at (i:=0) A8;obtain⟨⟨_,x1⟩,f1⟩:=v.o.row.at (i:=1) A8;have xz:=v.o.lt;go_wp2_with fail
  have H:=PD w2 w.heap.size 0 [.bool true,.string (yU n)] (v.o.row.there (o:=0) (m:=2) (Pw _));refine bX [.bool true,.string (yU n)] _ (.bool true) results57 rfl H underlying50 rfl Tryz.ma rfl rfl ?_;refine⟨⟨true,yU n,true,rfl,?_⟩,dL (g:=w.heap.size) (Pw _) [.bool true,.string (yU n)] 0 (c.trans Q)⟩;rcases x with⟨t,b,e⟩|x
  .exact QK e (a0.o t b)
  .exact⟨by unfold bI;rw[x];rfl,λh=>by cases h⟩
theorem oW(b:BM G Kq wz w bb a cap rd rn rc mb mx ts d dc f ws)(n:QV)(c:ts.length<=1048576)(h:n.size<=1000)(i:(∃t∈ts,t.r.name=n)\/Kk Kq n=none):
  Calls prog 57 #[.h bb,.string n] w λe w'=>Il Kq (Qj ts) n e/\K_ w w':=by
 refine (nG b n c h i).mono ?_;rintro e w' ⟨⟨f,t,ok,j,k,_⟩,l⟩;exact⟨⟨f,t,ok,j,k⟩,l⟩
end
