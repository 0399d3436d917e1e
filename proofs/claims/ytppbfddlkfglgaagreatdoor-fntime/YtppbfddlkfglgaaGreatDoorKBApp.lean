import Derived.Test.YtppbfddlkfglgaaGreatDoorKBWith
import Derived.Test.YtppbfddlkfglgaaGreatDoorKBRangeC
set_option maxRecDepth 100000
set_option maxHeartbeats 25600000
namespace Go.Proofs.YtppbfddlkfglgaaGreatDoor
open Go.RowKit Go.Proofs.Tryz
def Zk.fresh(nb:Nat)(n:QV)(cost:Int)(steps:List Xq)(sa:QW)(sc:Nat):Zk:=⟨nb,Q_.fresh n,cost,steps,sa,sc,0,J6,J6,[],⟨#[]⟩⟩
def Lp(Kq:List Qz)(ts:List Zk)(n:QV)(ts':List Zk):Prop:=
 (ts'=ts/\(Kk Kq n=none\/∃t∈ts,t.r.name=n))\/(∃p new,ts'=ts.take p++new :: ts.drop p/\new.r=Q_.fresh n/\(new.op=0/\new.bq= (⟨#[]⟩,[]))/\(∀t∈ts,t.r.name≠n)/\(Kk Kq n).isSome=true)
theorem FX{l:List Q_}{p:Nat}{r:Q_}(h:d_ l)(e:∀x∈l.take p,aQ x.name r.name)(h2:∀x∈l.drop p,aQ r.name x.name):d_ (l.take p++r :: l.drop p):=by
 have a:d_ (l.take p++l.drop p):=by rw[QB];exact h
 unfold d_ at a⊢;rw[P_] at a⊢;refine⟨a.1,QR.2 ⟨h2,a.2.1⟩,λx c y b=>?_⟩;rcases Qr.1 b with rfl|b
 .exact e x c
 .exact a.2.2 x c y b
section
variable {G:dm}{Kq:List Qz}{wz w w':QX}{bb:Nat}{a:QW}{cap:Nat}{rd:QW}{rn rc:Nat}{mb mx:Nat}{ts:List Zk}{d:QW}{dc:Nat}{f:QV -> QY}{ws:QV -> List Nat}
theorem BM.insert(h:BM G Kq wz w bb a cap rd rn rc mb mx ts d dc f ws){l:QX}{n:QV}{new:Zk}(k:K_ w l)(L:lC wz.heap.size l new)(M:new.r.name=n)(T:Kk Kq n=some ⟨new.cost,new.steps⟩)(U:Steps wz new.sa new.steps)(V:∀t∈ts,t.r.name≠n)(W:w.heap.size<=new.tb)(H:new.own=[])(X:new.qs=[]){z:QW}{A base m q:Nat}(P:w.heap.size<=base)(hm:m=ts.length+1)(I:l.ownsRow base 123 1 (.slice z m A) m ((ts.map Zk.ptr).take q++ .h new.tb :: (ts.map Zk.ptr).drop q))(N:Place (jv ts) n.toList q):
  BM G Kq wz ((l.setCell ⟨bb,3,none⟩ (.slice z m A)).setCell ⟨bb,4,none⟩ (.func (.func 41) #[] #[])) bb a cap rd rn rc mb mx (ts.take q++new :: ts.drop q) z A f ws:=by
 have j:=h.kept k;have zb:=h.row.lt;have v:But (λb=>b=bb) l ((l.setCell ⟨bb,3,none⟩ (.slice z m A)).setCell ⟨bb,4,none⟩ (.func (.func 41) #[] #[])):=But.set (S:=λb=>b=bb) (But.set (S:=λb=>b=bb) (But.ak (K_.refl l)) (p:=⟨bb,3,none⟩) rfl _) (p:=⟨bb,4,none⟩) rfl _;have J:(ts.take q++new :: ts.drop q).length=m:=by have:=N.le;rw[eG] at this;simp[List.length_take,List.length_drop];omega
 have B:∀u,u∈ts.take q++new :: ts.drop q↔u=new\/u∈ts:=λu=>by
  rw[PK,Qr];constructor
  .rintro (h|h|h)
   .exact .inr (List.mem_of_mem_take h)
   .exact .inl h
   .exact .inr (List.mem_of_mem_drop h)
  .rintro (h|h)
   .exact .inr (.inl h)
   .rw[<-QB q ts] at h;rcases PK.1 h with h|h
    .exact .inl h
    .exact .inr (.inr h)
 have C:∀{b:Nat}{t:TypeId},bu l b t->t≠106->¬b=bb:=λc Y i=>aN c j.row.type Y i
 obtain⟨Z,a0,hN,Q,hf⟩:=j.map;have nm:¬mb=bb:=λi=>iP Q j.row.type i.symm
 have fZ:∀u∈ts.take q++new :: ts.drop q,lC wz.heap.size ((l.setCell ⟨bb,3,none⟩ (.slice z m A)).setCell ⟨bb,4,none⟩ (.func (.func 41) #[] #[])) u:=λu c=>by
  rcases (B u).1 c with rfl|c
  .exact L.but v (C L.row.type A8) λx e=>C (L.eZ e).1 A8
  .have y:=j.fZ u c;exact y.but v (C y.row.type A8) λx e=>C (y.eZ e).1 A8
 have a1:Fen G ((l.setCell ⟨bb,3,none⟩ (.slice z m A)).setCell ⟨bb,4,none⟩ (.func (.func 41) #[] #[])) bb mb (ts.take q++new :: ts.drop q) f:=by
  have D:=j.oth.but v (λb i=>by rw[i];exact h.oth.nb);refine⟨D.size,D.lt,D.same,D.nb,D.nm,λu c=>?_,D.nf,λa2 hp=>by obtain⟨u,c,g⟩:=h.oth.has a2 hp;exact⟨u,(B u).2 (.inr c),g⟩⟩;rcases (B u).1 c with rfl|c
  .exact⟨h.oth.far W,λx e=>by rw[H] at e;cases e⟩
  .exact h.oth.nt u c
 refine⟨v.kept j.kw (λb i=>by rw[i];exact h.low),(j.row.set _).set _,?_,?_,?_,?_,bB (j.row.set _).row A7 _,?_,h.low,?_,fZ,?_,?_,?_,?_,?_,⟨Z,a0,hN,iW Q v nm,hf⟩,h.CW,λK=>v.owns (j.jo K) λb i=>C (Y_ (j.jo K) i) A8,h.Ar,λK x e i=>?_,λu c=>by rcases (B u).1 c with rfl|c;rw[X];exact Py _;exact h.qb u c,a1,λx e a3=>h.oth.far (Pz P (I.lt x (by rw[J] at e;exact e)).1) a3.2⟩
 .rw[Xk A7,Xk A7];exact j.c0
 .rw[Xk A7,Xk A7];exact j.c1
 .rw[Xk A7,Xk A7];exact j.c2
 .rw[Xk A7,J];exact bB j.row.row A7 _
 .rw[Xk A7,Xk A7];exact j.c5
 .rw[J];have i:(ts.take q++new :: ts.drop q).map Zk.ptr= (ts.map Zk.ptr).take q++ .h new.tb :: (ts.map Zk.ptr).drop q:=by simp[List.map_take,List.map_drop,Zk.ptr]
  rw[i];exact v.owns (gX I (Pz h.kw.size P)) λb i=>C (Y_ I i) A8
 .intro u c;rcases (B u).1 c with rfl|c
  .rw[M];exact⟨T,U⟩
  .exact h.act u c
 .have i:Qj (ts.take q++new :: ts.drop q)= (Qj ts).take q++new.r :: (Qj ts).drop q:=by simp[Qj,List.map_take,List.map_drop]
  rw[i];refine FX h.asc (λx e=>?_) λx e=>?_
  .obtain⟨s,E,rfl⟩:=PN e;rw[PW] at E;rw[Qf];have F:s<ts.length:=by simp[Qj] at E;omega
   have:=N.before s A7;unfold nameAt at this;rw[jh F] at this;rw[M];simpa[Qj,aQ] using this
  .obtain⟨s,E,rfl⟩:=PN e;rw[List.length_drop] at E;rw[List.getElem_drop];have F:q+s<ts.length:=by simp[Qj] at E;omega
   have:=N.behind (q+s) A7 (by rw[eG];exact F);unfold nameAt at this;rw[jh F] at this;rw[M];have e2:(Qj ts)[q+s]=ts[q+s].r:=by simp[Qj]
   rw[e2];rcases dA n ts[q+s].r.name with g|g|g
   .exact g
   .exact QK g.symm (V _ (PL F))
   .unfold aQ at g;rw[this] at g;cases g
 .have i:(ts.take q++new :: ts.drop q).map (·.tb)= (ts.map (·.tb)).take q++new.tb :: (ts.map (·.tb)).drop q:=by simp[List.map_take,List.map_drop]
  rw[i];have R:∀x∈ts.map (·.tb),x<new.tb:=λx e=>by
   obtain⟨t,y,rfl⟩:=PX.1 e;have:=(h.fZ t y).row.lt;omega
  have p:((ts.map (·.tb)).take q++(ts.map (·.tb)).drop q).Nodup:=by rw[QB];exact h.tbs
  rw[List.nodup_append] at p⊢;refine⟨p.1,List.nodup_cons.2 ⟨λe=>?_,p.2.1⟩,λx e a4 O=>?_⟩
  .have:=R _ (List.mem_of_mem_drop e);omega
  .rcases Qr.1 O with rfl|O
   .have:=R _ (List.mem_of_mem_take e);omega
   .exact p.2.2 x e a4 O
 .have p:(ts.take q++ts.drop q).Pairwise λt u=>∀x∈t.own,x∉u.own:=by rw[QB];exact h.sep
  rw[P_] at p⊢;refine⟨p.1,QR.2 ⟨λu _ x e=>(by rw[H] at e;cases e),p.2.1⟩,λt y u c x e=>?_⟩;rcases Qr.1 c with rfl|c
  .rw[H];simp
  .exact p.2.2 t y u c x e
 .intro u c;rcases (B u).1 c with rfl|c
  .rw[H];exact List.nodup_nil
  .exact h.Av u c
 .have h1:=((h.jo K).lt x e).2;rw[J] at i;have h2:=(I.lt x i).1;omega
theorem vX(x:BM G Kq wz w bb a cap rd rn rc mb mx ts d dc f ws)(n:QV)(hl:ts.length<=90)(a7:Kq.length<=1048576)(L:il Kq)(W:dS wz a Kq):
  Calls prog 42 #[.h bb,.string n] w λe w'=>e=.returned (.tuple #[])/\∃ts' d' dc',BM G Kq wz w' bb a cap rd rn rc mb mx ts' d' dc' f ws/\Lp Kq ts n ts':=by
 have b0:=x.c0;have b1:=x.c1;have zk:=x.row.lt;have s:=Kz x;clear x;go_enter func42,ntmps42
 go_wp2_with fail
 refine (Lm _ a cap Kq n a7 L (W.kept s.o.kw)).mono ?_;rintro e w1 ⟨⟨p,fd,rfl,X,Y⟩,z⟩;have⟨Z,M⟩:=aJ X Y;have b9:=(s.o.kept z).row.lt;clear X Y b0 b1;cases fd
 .go_wp2_with fail
  refine bodyPost_ret (results_none rfl _ _ _) rfl ?_;refine⟨rfl,ts,d,dc,s.o.kept z,.inl ⟨rfl,.inl (uA λj m e=>?_)⟩⟩;have A:nameAt Kq j=n.toList:=by unfold nameAt;rw[e]
  have e2:=Place.only L Z.o m A;rw[e2] at m A;have:=M.o.2 ⟨m,A⟩;cases this
 have a0:=(M.o.1 rfl).1;have N:Hid (Kk Kq n=some ⟨(Kq.getD p Qz.zero).cost,(Kq.getD p Qz.zero).steps⟩):=xe a0 (toList_inj.1 (M.o.1 rfl).2) (λj m e=>by
  have A:nameAt Kq j=n.toList:=by unfold nameAt;rw[e]
  have:=Place.only L Z.o A7 A;omega)
 go_wp2_with fail
 refine (rQ (s.o.kept z) n A7).mono ?_;rintro e B ⟨⟨O,hi,a9,rfl⟩|⟨a1,rfl⟩,k2⟩
 .have a2:ts[O].ptr=.h (ts[O].tb):=rfl;rw[a2];clear a2;go_wp2_with fail
  refine bodyPost_ret (results_none rfl _ _ _) rfl ?_;exact⟨rfl,ts,d,dc,s.o.kept (z.trans k2),.inl ⟨rfl,.inr ⟨ts[O],PL hi,a9⟩⟩⟩
 have b2:=z.trans k2;have k:=s.o.kept b2;obtain⟨b,o,cs,rfl,P,F,c,h,rfl,Q⟩:=W p a0;obtain⟨y,hy⟩:=aj (Kq.getD p Qz.zero);rw[<-hy] at F Q N;have hb:b<B.heap.size:=Px P k.kw.size;have c1:B.cell? ⟨b,o+p*3+1,none⟩=some (.b y.cost):=(k.kw.cell P).trans (F 1 _ rfl);have c2:B.cell? ⟨b,o+p*3+2,none⟩=some (.slice c y.steps.length h):=(k.kw.cell P).trans (F 2 _ rfl);have m0:=k.c0;have m3:=k.c3;have m4:=k.c4;have R:=k.row.lt;have⟨t,T,HA⟩:=dC k a1 Q;have H:Hid (∀w',K_ B w'->w'.cell? ⟨bb,0,none⟩=some (.slice (some ⟨b,o,none⟩) Kq.length cap)/\w'.cell? ⟨bb,3,none⟩=some (.slice d ts.length dc)/\w'.cell? ⟨bb,4,none⟩=some (.func (.func 41) #[] #[])/\w'.cell? ⟨b,o+p*3+1,none⟩=some (.b y.cost)/\w'.cell? ⟨b,o+p*3+2,none⟩=some (.slice c y.steps.length h)):=λw' C=>⟨(C.cell R).trans m0,(C.cell R).trans m3,(C.cell R).trans m4,(C.cell hb).trans c1,(C.cell hb).trans c2⟩
 have c5:(p:Int)<(Kq.length:Int):=A7;clear F Q hy k a1 c1 c2 m0 m3 m4;go_upto_region 2 with fail
 refine bG 21 H.o λi KD l=>?_
 refine ax 0 l ?_;refine ax 4 l ?_;refine ax 8 l ?_;refine ax 12 l ?_;refine ae 16 l ?_;refine au 17 λK q=>?_;go_simp
 have K3:K_ i (i.alloc (.cells #[.string n,.bool false,.bool false,.string ⟨#[]⟩,.b 0,.b 0,J6,.b y.cost,.slice c y.steps.length h,.b 0,J6,.string ⟨#[]⟩] 131)):=ai _ _;have D:aH (i.alloc (.cells #[.string n,.bool false,.bool false,.string ⟨#[]⟩,.b 0,.b 0,J6,.b y.cost,.slice c y.steps.length h,.b 0,J6,.string ⟨#[]⟩] 131)) i.heap.size 131 12:=aH.made i _ _;have E:(i.alloc (.cells #[.string n,.bool false,.bool false,.string ⟨#[]⟩,.b 0,.b 0,J6,.b y.cost,.slice c y.steps.length h,.b 0,J6,.string ⟨#[]⟩] 131)).rangeAt i.heap.size 0 [.string n,.bool false,.bool false,.string ⟨#[]⟩,.b 0,.b 0,J6,.b y.cost,.slice c y.steps.length h,.b 0,J6,.string ⟨#[]⟩]:=X_ i _ _;have v:=KD.trans K3;refine q.out _ _ (λ_=>H.o _ v) ?_;clear q K l;have zd:=KD.size;obtain⟨r,a3⟩:=aj i.heap.size;have b3:B.heap.size<=r:=A7;rw[<-a3] at D E⊢;generalize b4:i.alloc (.cells #[.string n,.bool false,.bool false,.string ⟨#[]⟩,.b 0,.b 0,J6,.b y.cost,.slice c y.steps.length h,.b 0,J6,.string ⟨#[]⟩] 131)=U at D E v⊢;clear b4 K3 a3;have a4:U.cell? ⟨r,0,none⟩=some (.string n):=E 0 _ rfl;have V:=Kz (JE U d dc (jv ts) ⟨n,0,[]⟩ (ts.map Zk.ptr) wz.heap.size r (by rw[eG];omega) (uT t.o.asc) (λj m e=>by rw[eG] at m;unfold nameAt at e;rw[jh m] at e;exact T.o _ (PL m) (toList_inj.1 e)) (by rw[eG];exact (t.o.kept v).items) (t.o.kept v).packed D.lt a4);rw[eG] at V;have a5:Hid (lC wz.heap.size U (Zk.fresh r n y.cost y.steps c h)):=⟨D,E,Qt _ _ _ _,Qt _ _ _ _,by have:=t.o.kw.size;show wz.heap.size<=r;omega⟩;clear a4 E D;try simp only[upP]
 refine aD 18 λK q=>?_;go_simp
 go_at_call 85
 refine V.o.mono ?_;rintro e w8 ⟨c6,a8,b5,base,b6,hm,rfl,b7,a6,hq,k8⟩;have I:=v.trans k8;have J:=t.o.kept I;obtain⟨⟨_,x3⟩,f3⟩:=J.row.row.at (i:=3) A7;obtain⟨⟨_,x4⟩,f4⟩:=J.row.row.at (i:=4) A7;have c7:=J.row.lt;have HI:=Kz (t.o.insert (n:=n) (new:=Zk.fresh r n y.cost y.steps c h) I (a5.o.but (S:=λ_=>False) (But.ak k8) id λ_ _=>id) rfl N.o HA.o T.o b3 rfl rfl (by have h1:=v.size;exact Pz h1 b7) (by rw[<-eG ts];exact hm) a6 hq);clear a6 J hq hm V a5;refine q.out _ _ (λ_=>H.o _ I) ?_;clear q K;have l:=H.o _ I;try simp only[upP]
 refine ae 19 l ?_;refine ae 20 l ?_;refine au 21 λK q=>?_;go_simp
 refine af q (λb8=>QK rfl b8) ?_;clear q K;refine aF ?_;go_wp2
 go_end0
 exact⟨rfl,_,a8,b5,HI.o,.inr ⟨b6,Zk.fresh r n y.cost y.steps c h,rfl,rfl,⟨rfl,rfl⟩,T.o,by rw[N.o];rfl⟩⟩
end
section
variable {P:Program}{w:QX}
theorem wB(base:Nat)(t d e:TypeId)(i:TypeInfo)(size:Nat)(a:P.underlying t=some (.slice e))(b:P.info? e=some i)(v:QY)(n:Nat)(f:List QY)(h:w.ownsRow base e size v n f)(x:QW)(c:Nat):
  (Builtin.append_ #[t,t] d #[v,.slice x 0 c]).run P w=.ok v w:=by
 rcases h.2 with⟨rfl,rfl⟩|⟨g,k,l,rfl,_,_,j,_⟩
 .cases x<;>simp[Builtin.append_,run_underlying a,sizeOf,typeInfo,b,Builtin.lenOf,Builtin.firstCells,loadCells,loadCellsFrom]
 .cases x<;>simp[Builtin.append_,run_underlying a,sizeOf,typeInfo,b,Builtin.lenOf,Builtin.firstCells,j,storeCells,loadCells,loadCellsFrom]
theorem fH{o:Oper}{a:Act}{K:Act->QX->Prop}{Q:Exit->Act->QX->Prop}(s x:Operand)(t:TypeId)(y:o.op=.call {callee:=.builtin .append,args:= #[s,x],argTypes:= #[t,t]})(base:Nat)(e:TypeId)(i:TypeInfo)(z:QY)(j:Nat)(A:P.underlying t=some (.slice e))(B:P.info? e=some i)(H:i.zero=some z)(I:i.size=1)(J:i.bytes=j)(L:z.cells.size=1)(v:QY)(n:Nat)(f:List QY)(C:a.eval s=v)(k:w.ownsRow base e 1 v n f)(m:QW)(c:Nat)(l:List QV)(p:a.eval x=.slice m l.length c)(D:Strs w m l)(M:n+l.length<=maxLen)(N:(n+l.length)*j<=140737488355328)(O:base<=w.heap.size)(h:∀v' w',w'.ownsRow base e 1 v' (n+l.length) (f++l.map Value.string)->w.grownBy w' v.ownBlock->(∀g,v'.ownBlock=some g->v.ownBlock=some g\/w.heap.size<=g)->K (a.put o.dst v') w'):o.wp P a w K Q:=by
 by_cases E:l.length=0
 .have R:=PQ.1 E;rw[E] at p;refine Go.Lib.wp_append_run w s x t t y v _ C p v w (wB base t o.type e i 1 A B v n f k m c) (h v w ?_ ⟨rfl,rfl,rfl,Pw _,λ_ _ _=>rfl⟩ λg e=>.inl e);rw[R];simpa using k
 .obtain⟨S,T,F,X,_⟩:=D 0 A7;refine wp_append_lies w s x t y base e i z 1 j A B H I J L A8 v n f C k ⟨S,T,none⟩ l.length c (l.map Value.string) (by rw[p,F]) A9 (λG u b=>?_) (λu b=>by obtain⟨x,_,rfl⟩:=PX.1 b;rfl) A7 M N O w.heap.size rfl (λg Y w' U V d Z=>h _ w' U V λg' e=>?_)
  .have q:G<l.length:=by have:=(PG.1 b).1;simpa using this
   obtain⟨b',q',r,_,W⟩:=D G q;rw[F] at r;simp only[Ql,QS,and_true] at r;obtain⟨rfl,rfl⟩:=r;rw[Qo,W];simp[q] at b;simp[List.getD,q,b]
  .simp only[Value.ownBlock,Ql] at e;subst e;rcases d with d|d
   .exact .inl d
   .exact .inr (PY d.symm)
theorem gP{j:Array Oper}{rest:List Oper}{o:Oper}{a:Act}{Q:Exit->Act->QX->Prop}(hgd:o.guard=none)(s x:Operand)(t:TypeId)(k:o.op=.call {callee:=.builtin .append,args:= #[s,x],argTypes:= #[t,t]})(base:Nat)(e:TypeId)(i:TypeInfo)(z:QY)(d:Nat)(m:P.underlying t=some (.slice e))(p:P.info? e=some i)(q:i.zero=some z)(r:i.size=1)(y:i.bytes=d)(A:z.cells.size=1)(v:QY)(n:Nat)(f:List QY)(B:a.eval s=v)(C:w.ownsRow base e 1 v n f)(h:QW)(c:Nat)(l:List QV)(D:a.eval x=.slice h l.length c)(E:Strs w h l)(F:n+l.length<=maxLen)(G:(n+l.length)*d<=140737488355328)(H:base<=w.heap.size)(I:∀b w',w'.ownsRow base e 1 b (n+l.length) (f++l.map Value.string)->w.grownBy w' v.ownBlock->(∀g,b.ownBlock=some g->v.ownBlock=some g\/w.heap.size<=g)->wpList P j Q rest (a.put o.dst b) w'):wpList P j Q (o :: rest) a w:=
 wpList_plain hgd λ_ J=>fH s x t k base e i z d m p q r y A v n f B C h c l D E F G H λb w' K L M=>J _ _ (I b w' K L M)
end
section
variable {G:dm}{Kq:List Qz}{wz w w':QX}{bb:Nat}{a:QW}{cap:Nat}{rd:QW}{rn rc:Nat}{mb mx:Nat}{ts:List Zk}{d:QW}{dc:Nat}{f:QV -> QY}{ws:QV -> List Nat}
theorem BM.asked(m:BM G Kq wz w bb a cap rd rn rc mb mx ts d dc f ws){i:Nat}{t:Zk}(F:ts[i]? =some t){w1:QX}{c:QY}{l:List QY}(y:w1.ownsRow wz.heap.size 9 1 c (t.qs.length+l.length) (t.qs++l))(q:w.grownBy w1 t.qv.ownBlock)(z:∀g,c.ownBlock=some g->t.qv.ownBlock=some g\/w.heap.size<=g)(R:l.length<=5):
  BM G Kq wz (w1.setCell ⟨t.tb,10,none⟩ c) bb a cap rd rn rc mb (mx+1) (ts.set i {t with qv:=c,qs:=t.qs++l}) d dc f ws:=by
 obtain⟨n,rfl⟩:=PG.1 F;have j:=m.fZ _ (PL n);have k:=m.Av _ (PL n);have H:But (λb=>b=ts[i].tb\/b∈ts[i].own) w w1:=But.aI q λb e=>.inr (PK.2 (.inr (Qe.2 e)));have I:But (λb=>b=ts[i].tb\/b∈ts[i].own) w (w1.setCell ⟨ts[i].tb,10,none⟩ c):=But.set H (p:=⟨ts[i].tb,10,none⟩) (.inl rfl) c;have J:∀b,ts[i].qv.ownBlock=some b->ts[i].tb≠b:=λb e=>aN j.row.type (Y_ j.ask e) A8
 have A:w1.heap[ts[i].tb]? =w.heap[ts[i].tb]? :=q.block _ j.row.lt λe=>J _ e.symm rfl;have s:aH w1 ts[i].tb 131 12:=j.row.block A;have K:w1.rangeAt ts[i].tb 0 ts[i].cells:=λL u v=>(PO (w:=w) A).trans (j.rng L u v)
 have B:∀{b:Nat},bu w1 b 9->b≠ts[i].tb:=λv=>aN v s.type A8
 have C:But (λb=>b=ts[i].tb) w1 (w1.setCell ⟨ts[i].tb,10,none⟩ c):=But.set (S:=λb=>b=ts[i].tb) (But.ak (K_.refl w1)) (p:=⟨ts[i].tb,10,none⟩) rfl c;have D:w1.ownsRow wz.heap.size 9 1 ts[i].tv ts[i].r.texts.length (ts[i].r.texts.map Value.string):=(But.aI (S:=λb=>ts[i].qv.ownBlock=some b) q λb e=>e).owns j.txt (λb e M=>by
  have N:b∈ts[i].tv.ownBlock.toList:=Qe.2 e;have O:b∈ts[i].qv.ownBlock.toList:=Qe.2 M;unfold Zk.own at k;exact (List.nodup_append.1 k).2.2 b N b O rfl)
 refine (m.more (Nat.le_succ mx)).turn n I (λb P=>P) ⟨s.set c,nR K s.row A7 c,C.owns D λb e=>B (Y_ D e),?_,j.low⟩ rfl rfl rfl rfl rfl (λx h=>?_) ?_ (by have:=m.qb _ (PL n);show (ts[i].qs++l).length<=5*(mx+1);rw[Qi];omega)
 .have e:({ts[i] with qv:=c,qs:=ts[i].qs++l}:Zk).qs.length=ts[i].qs.length+l.length:=A9;rw[e];exact C.owns y λb e=>B (Y_ y e)
 .unfold Zk.own at h⊢;rcases PK.1 h with h|h
  .exact .inl (PK.2 (.inl h))
  .rcases z x (Qe.1 h) with e|e
   .exact .inl (PK.2 (.inr (Qe.2 e)))
   .exact .inr e
 .unfold Zk.own at k⊢;rw[List.nodup_append] at k⊢;refine⟨k.1,?_,λx h E Q=>?_⟩
  .show (c.ownBlock.toList).Nodup;cases c.ownBlock<;>simp
  .rcases z E (Qe.1 Q) with e|e
   .exact k.2.2 x h E (Qe.2 e)
   .have:=(j.txt.lt x (Qe.1 h)).2;omega
end
