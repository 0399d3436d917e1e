import Derived.Test.YtbmhchdegdjfkaaGreatDoorKBWith
import Derived.Test.YtbmhchdegdjfkaaGreatDoorKVNeeds
set_option maxRecDepth 100000
set_option maxHeartbeats 25600000
namespace Go.Proofs.YtbmhchdegdjfkaaGreatDoor
open Go.RowKit Go.Proofs.Tryz
def Zk.fresh(nb:Nat)(n:KC)(cost:Int)(steps:List Xq)(sa:KG)(sc:Nat):Zk:=⟨nb,Q_.fresh n,cost,steps,sa,sc,0,.slice none 0 0,.slice none 0 0,[],⟨#[]⟩⟩
def EK(Kq:List Qz)(ts:List Zk)(n:KC)(ts':List Zk):Prop:=
 (ts'=ts/\(Kk Kq n=none\/∃t∈ts,t.r.name=n))\/(∃p new,ts'=ts.take p++new :: ts.drop p/\new.r=Q_.fresh n/\(new.op=0/\new.bq= (⟨#[]⟩,[]))/\(∀t∈ts,t.r.name≠n)/\(Kk Kq n).isSome=true)
theorem Cg{l:List Q_}{p:Nat}{r:Q_}(h:cZ l)(e:∀x∈l.take p,bU x.name r.name)(h2:∀x∈l.drop p,bU r.name x.name):cZ (l.take p++r :: l.drop p):=by
 have a:cZ (l.take p++l.drop p):=by rw[JY];exact h
 unfold cZ at a⊢;rw[Jy] at a⊢;refine⟨a.1,Ku.2 ⟨h2,a.2.1⟩,fun x c y b=>?_⟩;rcases JN.1 b with rfl | b
 ·exact e x c
 ·exact a.2.2 x c y b
section
variable {G : bW} {Kq : List Qz} {wz w w' : KH} {bb : Nat} {a : KG} {cap : Nat} {rd : KG} {rn rc : Nat} {mb mx : Nat} {ts : List Zk} {d : KG} {dc : Nat} {f : KC -> KI} {ws : KC -> List Nat}
theorem BM.insert(h:BM G Kq wz w bb a cap rd rn rc mb mx ts d dc f ws){l:KH}{n:KC}{new:Zk}(k:K_ w l)(M:jH wz.heap.size l new)(N:new.r.name=n)(U:Kk Kq n=some ⟨new.cost,new.steps⟩)(V:Steps wz new.sa new.steps)(W:∀t∈ts,t.r.name≠n)(X:w.heap.size<=new.tb)(I:new.own=[])(Y:new.qs=[]){A:KG}{B base m q:Nat}(Q:w.heap.size<=base)(hm:m=ts.length+1)(J:l.ownsRow base 103 1 (.slice A m B) m ((ts.map Zk.ptr).take q++ .pointer (some ⟨new.tb,0,none⟩) :: (ts.map Zk.ptr).drop q))(O:Place (iy ts) n.toList q):
  BM G Kq wz ((l.setCell ⟨bb,3,none⟩ (.slice A m B)).setCell ⟨bb,4,none⟩ (.func (.func 101) #[] #[])) bb a cap rd rn rc mb mx (ts.take q++new :: ts.drop q) A B f ws:=by
 have j:=h.kept k;have zb:=h.row.lt;have v:But (fun b=>b=bb) l ((l.setCell ⟨bb,3,none⟩ (.slice A m B)).setCell ⟨bb,4,none⟩ (.func (.func 101) #[] #[])):=But.set (S:=fun b=>b=bb) (But.set (S:=fun b=>b=bb) (But.aC (K_.refl l)) (p:=⟨bb,3,none⟩) rfl _) (p:=⟨bb,4,none⟩) rfl _;have K:(ts.take q++new :: ts.drop q).length=m:=by have:=O.le;rw[dH] at this;simp[List.length_take,List.length_drop];omega
 have C:∀u,u∈ts.take q++new :: ts.drop q↔u=new\/u∈ts:=fun u=>by
  rw[Jh,JN];constructor
  ·rintro (h|h|h)
   ·exact .inr (List.mem_of_mem_take h)
   ·exact .inl h
   ·exact .inr (List.mem_of_mem_drop h)
  ·rintro (h|h)
   ·exact .inr (.inl h)
   ·rw[<-JY q ts] at h;rcases Jh.1 h with h|h
    ·exact .inl h
    ·exact .inr (.inr h)
 have D:∀{b:Nat} {t:TypeId},bX l b t->t≠112->¬b=bb:=fun c Z i=>aQ c j.row.type Z i
 obtain⟨a0,a1,hN,R,hf⟩:=j.map;have nm:¬mb=bb:=fun i=>jF R j.row.type i.symm
 have fE:∀u∈ts.take q++new :: ts.drop q,jH wz.heap.size ((l.setCell ⟨bb,3,none⟩ (.slice A m B)).setCell ⟨bb,4,none⟩ (.func (.func 101) #[] #[])) u:=fun u c=>by
  rcases (C u).1 c with rfl|c
  ·exact M.but v (D M.row.type (by decide)) (fun x e=>D (M.dZ e).1 (by decide))
  ·have y:=j.fE u c;exact y.but v (D y.row.type (by decide)) (fun x e=>D (y.dZ e).1 (by decide))
 have a2:Fen G ((l.setCell ⟨bb,3,none⟩ (.slice A m B)).setCell ⟨bb,4,none⟩ (.func (.func 101) #[] #[])) bb mb (ts.take q++new :: ts.drop q) f:=by
  have E:=j.oth.but v (fun b i=>by rw[i];exact h.oth.nb);refine⟨E.size,E.lt,E.same,E.nb,E.nm,fun u c=>?_,E.nf,fun a3 hp=>by obtain⟨u,c,g⟩:=h.oth.has a3 hp;exact⟨u,(C u).2 (.inr c),g⟩⟩;rcases (C u).1 c with rfl | c
  ·exact⟨h.oth.far X,fun x e=>by rw[I] at e;cases e⟩
  ·exact h.oth.nt u c
 refine⟨v.kept j.kw (fun b i=>by rw[i];exact h.low),(j.row.set _).set _, ?_, ?_, ?_, ?_,aS (j.row.set _).row (by omega) _, ?_,h.low, ?_,fE, ?_, ?_, ?_, ?_, ?_,⟨a0,a1,hN,kv R v nm,hf⟩,h.yM,fun L=>v.owns (j.dJ L) (fun b i=>D (Y_ (j.dJ L) i) (by decide)),h.vQ,fun L x e i=>?_,fun u c=>by rcases (C u).1 c with rfl | c;rw[Y];exact Ja _;exact h.qb u c,a2,fun x e a4=>h.oth.far (Jb Q (J.lt x (by rw[K] at e;exact e)).1) a4.2⟩
 ·rw[Xk (by omega),Xk (by omega)];exact j.c0
 ·rw[Xk (by omega),Xk (by omega)];exact j.c1
 ·rw[Xk (by omega),Xk (by omega)];exact j.c2
 ·rw[Xk (by omega),K];exact aS j.row.row (by omega) _
 ·rw[Xk (by omega),Xk (by omega)];exact j.c5
 ·rw[K];have i:(ts.take q++new :: ts.drop q).map Zk.ptr= (ts.map Zk.ptr).take q++ .pointer (some ⟨new.tb,0,none⟩) :: (ts.map Zk.ptr).drop q:=by simp[List.map_take,List.map_drop,Zk.ptr]
  rw[i];exact v.owns (bJ J (Jb h.kw.size Q)) (fun b i=>D (Y_ J i) (by decide))
 ·intro u c;rcases (C u).1 c with rfl|c
  ·rw[N];exact⟨U,V⟩
  ·exact h.act u c
 ·have i:Qj (ts.take q++new :: ts.drop q)= (Qj ts).take q++new.r :: (Qj ts).drop q:=by simp[Qj,List.map_take,List.map_drop]
  rw[i];refine Cg h.asc (fun x e=>?_) (fun x e=>?_)
  ·obtain⟨s,F,rfl⟩:=Jk e;rw[Jt] at F;rw[JE];have H:s<ts.length:=by simp[Qj] at F;omega
   have:=O.before s (by omega);unfold nameAt at this;rw[gV H] at this;rw[N];simpa[Qj,bU] using this
  ·obtain⟨s,F,rfl⟩:=Jk e;rw[List.length_drop] at F;rw[List.getElem_drop];have H:q+s<ts.length:=by simp[Qj] at F;omega
   have:=O.behind (q+s) (by omega) (by rw[dH];exact H);unfold nameAt at this;rw[gV H] at this;rw[N];have e2:(Qj ts)[q+s]=ts[q+s].r:=by simp[Qj]
   rw[e2];rcases iT n ts[q+s].r.name with g|g|g
   ·exact g
   ·exact Ki g.symm (W _ (Ji H))
   ·unfold bU at g;rw[this] at g;cases g
 ·have i:(ts.take q++new :: ts.drop q).map (·.tb)= (ts.map (·.tb)).take q++new.tb :: (ts.map (·.tb)).drop q:=by simp[List.map_take,List.map_drop]
  rw[i];have T:∀x∈ts.map (·.tb),x<new.tb:=fun x e=>by
   obtain⟨t,y,rfl⟩:=Ju.1 e;have:=(h.fE t y).row.lt;omega
  have p:((ts.map (·.tb)).take q++ (ts.map (·.tb)).drop q).Nodup:=by rw[JY];exact h.tbs
  rw[List.nodup_append] at p⊢;refine⟨p.1,List.nodup_cons.2 ⟨fun e=>?_,p.2.1⟩,fun x e a5 P=>?_⟩
  ·have:=T _ (List.mem_of_mem_drop e);omega
  ·rcases JN.1 P with rfl|P
   ·have:=T _ (List.mem_of_mem_take e);omega
   ·exact p.2.2 x e a5 P
 ·have p:(ts.take q++ts.drop q).Pairwise fun t u=>∀x∈t.own,x∉u.own:=by rw[JY];exact h.sep
  rw[Jy] at p⊢;refine⟨p.1,Ku.2 ⟨fun u _ x e=>(by rw[I] at e;cases e),p.2.1⟩,fun t y u c x e=>?_⟩;rcases JN.1 c with rfl | c
  ·rw[I];simp
  ·exact p.2.2 t y u c x e
 ·intro u c;rcases (C u).1 c with rfl|c
  ·rw[I];exact List.nodup_nil
  ·exact h.vR u c
 ·have h1:=((h.dJ L).lt x e).2;rw[K] at i;have h2:=(J.lt x i).1;omega
theorem rU(x:BM G Kq wz w bb a cap rd rn rc mb mx ts d dc f ws)(n:KC)(hl:ts.length<=90)(a7:Kq.length<=1048576)(L:fG Kq)(W:bY wz a Kq):
  Calls prog 102 #[.pointer (some ⟨bb,0,none⟩),.string n] w fun e w'=>e= .returned (.tuple #[])/\∃ts' d' dc',BM G Kq wz w' bb a cap rd rn rc mb mx ts' d' dc' f ws/\EK Kq ts n ts':=by
 have b0:=x.c0;have b1:=x.c1;have zk:=x.row.lt;have s:=Kz x;clear x;go_enter func102,ntmps102
 go_wp2_with fail
 refine (EF _ a cap Kq n a7 L (W.kept s.o.kw)).mono ?_;rintro e w1 ⟨⟨p,fd,rfl,X,Y⟩,A⟩;have⟨Z,M⟩:=aD X Y;have b9:=(s.o.kept A).row.lt;clear X Y b0 b1;cases fd
 ·go_wp2_with fail
  refine bodyPost_ret (results_none rfl _ _ _) rfl ?_;refine⟨rfl,ts,d,dc,s.o.kept A,.inl ⟨rfl,.inl (vV fun j m e=>?_)⟩⟩;have B:nameAt Kq j=n.toList:=by unfold nameAt;rw[e]
  have e2:=Place.only L Z.o m B;rw[e2] at m B;have:=M.o.2 ⟨m,B⟩;cases this
 have a0:=(M.o.1 rfl).1;have N:Hid (Kk Kq n=some ⟨(Kq.getD p Qz.zero).cost,(Kq.getD p Qz.zero).steps⟩):=ym a0 (toList_inj.1 (M.o.1 rfl).2) (fun j m e=>by
  have B:nameAt Kq j=n.toList:=by unfold nameAt;rw[e]
  have:=Place.only L Z.o (by omega) B;omega)
 go_wp2_with fail
 refine (iK (s.o.kept A) n (by omega)).mono ?_;rintro e w2 ⟨⟨O,hi,a9,rfl⟩|⟨a1,rfl⟩,k2⟩
 ·have a2:ts[O].ptr= .pointer (some ⟨ts[O].tb,0,none⟩):=rfl;rw[a2];clear a2;go_wp2_with fail
  refine bodyPost_ret (results_none rfl _ _ _) rfl ?_;exact⟨rfl,ts,d,dc,s.o.kept (A.trans k2),.inl ⟨rfl,.inr ⟨ts[O],Ji hi,a9⟩⟩⟩
 have b2:=A.trans k2;have k:=s.o.kept b2;obtain⟨b,o,cs,rfl,P,F,c,h,rfl,Q⟩:=W p a0;obtain⟨y,hy⟩:=ah (Kq.getD p Qz.zero);rw[<-hy] at F Q N;have hb:b<w2.heap.size:=I_ P k.kw.size;have c1:w2.cell? ⟨b,o+p*3+1,none⟩=some (.int .i64 y.cost):=(k.kw.cell P).trans (F 1 _ rfl);have c2:w2.cell? ⟨b,o+p*3+2,none⟩=some (.slice c y.steps.length h):=(k.kw.cell P).trans (F 2 _ rfl);have m0:=k.c0;have m3:=k.c3;have m4:=k.c4;have R:=k.row.lt;have⟨t,T,HA⟩:=eB k a1 Q;have H:Hid (∀w',K_ w2 w'->w'.cell? ⟨bb,0,none⟩=some (.slice (some ⟨b,o,none⟩) Kq.length cap)/\w'.cell? ⟨bb,3,none⟩=some (.slice d ts.length dc)/\w'.cell? ⟨bb,4,none⟩=some (.func (.func 101) #[] #[])/\w'.cell? ⟨b,o+p*3+1,none⟩=some (.int .i64 y.cost)/\w'.cell? ⟨b,o+p*3+2,none⟩=some (.slice c y.steps.length h)):=fun w' C=>⟨(C.cell R).trans m0,(C.cell R).trans m3,(C.cell R).trans m4,(C.cell hb).trans c1,(C.cell hb).trans c2⟩
 have c5:(p:Int)<(Kq.length:Int):=by omega
 clear F Q hy k a1 c1 c2 m0 m3 m4;go_upto_region 2 with fail
 refine bS 21 H.o fun i KD l=>?_
 refine aB 0 l ?_;refine aB 4 l ?_;refine aB 8 l ?_;refine aB 12 l ?_;refine ae 16 l ?_;refine af 17 (fun K q=>?_);go_simp
 have K3:K_ i (i.alloc (.cells #[.string n,.bool false,.bool false,.string ⟨#[]⟩,.int .i64 0,.int .i64 0,.slice none 0 0,.int .i64 y.cost,.slice c y.steps.length h,.int .i64 0,.slice none 0 0,.string ⟨#[]⟩] 115)):=ag _ _;have D:au (i.alloc (.cells #[.string n,.bool false,.bool false,.string ⟨#[]⟩,.int .i64 0,.int .i64 0,.slice none 0 0,.int .i64 y.cost,.slice c y.steps.length h,.int .i64 0,.slice none 0 0,.string ⟨#[]⟩] 115)) i.heap.size 115 12:=au.made i _ _;have E:(i.alloc (.cells #[.string n,.bool false,.bool false,.string ⟨#[]⟩,.int .i64 0,.int .i64 0,.slice none 0 0,.int .i64 y.cost,.slice c y.steps.length h,.int .i64 0,.slice none 0 0,.string ⟨#[]⟩] 115)).rangeAt i.heap.size 0 [.string n,.bool false,.bool false,.string ⟨#[]⟩,.int .i64 0,.int .i64 0,.slice none 0 0,.int .i64 y.cost,.slice c y.steps.length h,.int .i64 0,.slice none 0 0,.string ⟨#[]⟩]:=X_ i _ _;have v:=KD.trans K3;refine q.out _ _ (fun _=>H.o _ v) ?_;clear q K l;have zd:=KD.size;obtain⟨r,a3⟩:=ah i.heap.size;have b3:w2.heap.size<=r:=by omega
 rw[<-a3] at D E⊢;generalize b4:i.alloc (.cells #[.string n,.bool false,.bool false,.string ⟨#[]⟩,.int .i64 0,.int .i64 0,.slice none 0 0,.int .i64 y.cost,.slice c y.steps.length h,.int .i64 0,.slice none 0 0,.string ⟨#[]⟩] 115)=U at D E v⊢;clear b4 K3 a3;have a4:U.cell? ⟨r,0,none⟩=some (.string n):=E 0 _ rfl;have V:=Kz (Di U d dc (iy ts) ⟨n,0,[]⟩ (ts.map Zk.ptr) wz.heap.size r (by rw[dH];omega) (qy t.o.asc) (fun j m e=>by rw[dH] at m;unfold nameAt at e;rw[gV m] at e;exact T.o _ (Ji m) (toList_inj.1 e)) (by rw[dH];exact (t.o.kept v).items) (t.o.kept v).packed D.lt a4);rw[dH] at V;have a5:Hid (jH wz.heap.size U (Zk.fresh r n y.cost y.steps c h)):=⟨D,E,JP _ _ _ _,JP _ _ _ _,by have:=t.o.kw.size;show wz.heap.size<=r;omega⟩;clear a4 E D;try simp only[Act.put,upA,upB,upC]
 refine ai 18 (fun K q=>?_);go_simp
 go_at_call 135
 refine V.o.mono ?_;rintro e w8 ⟨c6,a8,b5,base,b6,hm,rfl,b7,a6,hq,k8⟩;have I:=v.trans k8;have J:=t.o.kept I;obtain⟨⟨_,x3⟩,f3⟩:=J.row.row.at (i:=3) (by omega);obtain⟨⟨_,x4⟩,f4⟩:=J.row.row.at (i:=4) (by omega);have c7:=J.row.lt;have HI:=Kz (t.o.insert (n:=n) (new:=Zk.fresh r n y.cost y.steps c h) I (a5.o.but (S:=fun _=>False) (But.aC k8) id (fun _ _=>id)) rfl N.o HA.o T.o b3 rfl rfl (by have h1:=v.size;exact Jb h1 b7) (by rw[<-dH ts];exact hm) a6 hq);clear a6 J hq hm V a5;refine q.out _ _ (fun _=>H.o _ I) ?_;clear q K;have l:=H.o _ I;try simp only[Act.put,upA,upB,upC]
 refine ae 19 l ?_;refine ae 20 l ?_;refine af 21 (fun K q=>?_);go_simp
 refine q.out _ _ (fun b8=>Ki rfl b8) ?_;clear q K;try simp only[Act.put,upA,upB,upC]
 refine ay ?_;go_wp2
 go_end0
 exact⟨rfl,_,a8,b5,HI.o,.inr ⟨b6,Zk.fresh r n y.cost y.steps c h,rfl,rfl,⟨rfl,rfl⟩,T.o,by rw[N.o];rfl⟩⟩
end
section
variable {P : Program} {w : KH}
theorem sw(base:Nat)(t d e:TypeId)(i:TypeInfo)(size:Nat)(a:P.underlying t=some (.slice e))(b:P.info? e=some i)
  (v:KI) (n:Nat) (f:List KI) (h:w.ownsRow base e size v n f) (x:KG) (c:Nat):
  (Builtin.append_ #[t,t] d #[v,.slice x 0 c]).run P w= .ok v w:=by
 rcases h.2 with⟨rfl,rfl⟩|⟨g,k,l,rfl,_,_,j,_⟩
 ·cases x <;> simp[Builtin.append_,run_underlying a,sizeOf,typeInfo,b,Builtin.lenOf,Builtin.firstCells,loadCells,loadCellsFrom]
 ·cases x <;> simp[Builtin.append_,run_underlying a,sizeOf,typeInfo,b,Builtin.lenOf,Builtin.firstCells,j,storeCells,loadCells,loadCellsFrom]
theorem dY{o:Oper}{a:Act}{K:Act->KH->Prop}{Q:Exit->Act->KH->Prop}(s x:Operand)(t:TypeId)
  (r:o.op= .call {callee:= .builtin .append,args:= #[s,x],argTypes:= #[t,t]})
  (base:Nat) (e:TypeId) (i:TypeInfo) (z:KI) (h:Nat) (y:P.underlying t=some (.slice e)) (A:P.info? e=some i) (H:i.zero=some z)
  (I:i.size=1) (J:i.bytes=h) (L:z.cells.size=1)
  (v:KI) (n:Nat) (f:List KI) (B:a.eval s=v) (j:w.ownsRow base e 1 v n f)
  (k:KG) (c:Nat) (l:List KC) (m:a.eval x= .slice k l.length c) (C:Strs w k l)
  (M:n+l.length<=maxLen) (N:(n+l.length)*h<=140737488355328) (O:base<=w.heap.size)
  (D:∀v' w',w'.ownsRow base e 1 v' (n+l.length) (f++l.map Value.string)->w.grownBy w' v.ownBlock->(∀g,v'.ownBlock=some g->v.ownBlock=some g\/w.heap.size<=g)->K (a.put o.dst v') w'):o.wp P a w K Q:=by
 by_cases E:l.length=0
 ·have R:=Jn.1 E;rw[E] at m;refine Go.Lib.wp_append_run w s x t t r v _ B m v w (sw base t o.type e i 1 y A v n f j k c) (D v w ?_ ⟨rfl,rfl,rfl,IZ _,fun _ _ _=>rfl⟩ (fun g e=>.inl e));rw[R];simpa using j
 ·obtain⟨S,T,F,X,_⟩:=C 0 (by omega);refine wp_append_lies w s x t r base e i z 1 h y A H I J L (by decide) v n f B j ⟨S,T,none⟩ l.length c (l.map Value.string) (by rw[m,F]) (by simp) (fun G u b=>?_) (fun u b=>by obtain⟨x,_,rfl⟩:=Ju.1 b;rfl) (by omega) M N O w.heap.size rfl (fun g Y w' U V d Z=>D _ w' U V (fun g' e=>?_))
  ·have p:G<l.length:=by have:=(Je.1 b).1;simpa using this
   obtain⟨b',q',q,_,W⟩:=C G p;rw[F] at q;simp only[JI,Kv,and_true] at q;obtain⟨rfl,rfl⟩:=q;rw[JL,W];simp[p] at b;simp[List.getD,p,b]
  ·simp only[Value.ownBlock,JI] at e;subst e;rcases d with d|d
   ·exact .inl d
   ·exact .inr (Jv d.symm)
theorem bP{j:Array Oper}{rest:List Oper}{o:Oper}{a:Act}{Q:Exit->Act->KH->Prop}(hgd:o.guard=none)(s x:Operand)(t:TypeId)
  (m:o.op= .call {callee:= .builtin .append,args:= #[s,x],argTypes:= #[t,t]})
  (base:Nat) (e:TypeId) (i:TypeInfo) (z:KI) (d:Nat) (p:P.underlying t=some (.slice e)) (q:P.info? e=some i) (r:i.zero=some z)
  (y:i.size=1) (A:i.bytes=d) (B:z.cells.size=1)
  (v:KI) (n:Nat) (f:List KI) (C:a.eval s=v) (D:w.ownsRow base e 1 v n f)
  (h:KG) (c:Nat) (l:List KC) (E:a.eval x= .slice h l.length c) (F:Strs w h l)
  (G:n+l.length<=maxLen) (H:(n+l.length)*d<=140737488355328) (I:base<=w.heap.size)
  (J:∀b w',w'.ownsRow base e 1 b (n+l.length) (f++l.map Value.string)->w.grownBy w' v.ownBlock->(∀g,b.ownBlock=some g->v.ownBlock=some g\/w.heap.size<=g)->wpList P j Q rest (a.put o.dst b) w'):wpList P j Q (o :: rest) a w:=
 wpList_plain hgd fun _ K=>dY s x t m base e i z d p q r y A B v n f C D h c l E F G H I fun b w' L M N=>K _ _ (J b w' L M N)
end
section
variable {G : bW} {Kq : List Qz} {wz w w' : KH} {bb : Nat} {a : KG} {cap : Nat} {rd : KG} {rn rc : Nat} {mb mx : Nat} {ts : List Zk} {d : KG} {dc : Nat} {f : KC -> KI} {ws : KC -> List Nat}
theorem BM.asked(m:BM G Kq wz w bb a cap rd rn rc mb mx ts d dc f ws){i:Nat}{t:Zk}(H:ts[i]? =some t){w1:KH}{c:KI}{l:List KI}(y:w1.ownsRow wz.heap.size 9 1 c (t.qs.length+l.length) (t.qs++l))(q:w.grownBy w1 t.qv.ownBlock)(A:∀g,c.ownBlock=some g->t.qv.ownBlock=some g\/w.heap.size<=g)(T:l.length<=5):
  BM G Kq wz (w1.setCell ⟨t.tb,10,none⟩ c) bb a cap rd rn rc mb (mx+1) (ts.set i {t with qv:=c,qs:=t.qs++l}) d dc f ws:=by
 obtain⟨n,rfl⟩:=Je.1 H;have j:=m.fE _ (Ji n);have k:=m.vR _ (Ji n);have I:But (fun b=>b=ts[i].tb\/b∈ts[i].own) w w1:=But.aK q (fun b e=>.inr (Jh.2 (.inr (JD.2 e))));have J:But (fun b=>b=ts[i].tb\/b∈ts[i].own) w (w1.setCell ⟨ts[i].tb,10,none⟩ c):=But.set I (p:=⟨ts[i].tb,10,none⟩) (.inl rfl) c;have K:∀b,ts[i].qv.ownBlock=some b->ts[i].tb≠b:=fun b e=>aQ j.row.type (Y_ j.ask e) (by decide)
 have B:w1.heap[ts[i].tb]? =w.heap[ts[i].tb]? :=q.block _ j.row.lt (fun e=>K _ e.symm rfl);have s:au w1 ts[i].tb 115 12:=j.row.block B;have L:w1.rangeAt ts[i].tb 0 ts[i].cells:=fun M u v=>(Jl (w:=w) B).trans (j.rng M u v)
 have C:∀{b:Nat},bX w1 b 9->b≠ts[i].tb:=fun v=>aQ v s.type (by decide)
 have D:But (fun b=>b=ts[i].tb) w1 (w1.setCell ⟨ts[i].tb,10,none⟩ c):=But.set (S:=fun b=>b=ts[i].tb) (But.aC (K_.refl w1)) (p:=⟨ts[i].tb,10,none⟩) rfl c;have E:w1.ownsRow wz.heap.size 9 1 ts[i].tv ts[i].r.texts.length (ts[i].r.texts.map Value.string):=(But.aK (S:=fun b=>ts[i].qv.ownBlock=some b) q (fun b e=>e)).owns j.txt (fun b e N=>by
  have O:b∈ts[i].tv.ownBlock.toList:=JD.2 e;have P:b∈ts[i].qv.ownBlock.toList:=JD.2 N;unfold Zk.own at k;exact (List.nodup_append.1 k).2.2 b O b P rfl)
 refine (m.more (Nat.le_succ mx)).turn n J (fun b Q=>Q) ⟨s.set c,lI L s.row (by omega) c,D.owns E (fun b e=>C (Y_ E e)), ?_,j.low⟩ rfl rfl rfl rfl rfl (fun x h=>?_) ?_ (by have:=m.qb _ (Ji n);show (ts[i].qs++l).length<=5*(mx+1);rw[JH];omega)
 ·have e:({ts[i] with qv:=c,qs:=ts[i].qs++l}:Zk).qs.length=ts[i].qs.length+l.length:=by simp
  rw[e];exact D.owns y (fun b e=>C (Y_ y e))
 ·unfold Zk.own at h⊢;rcases Jh.1 h with h|h
  ·exact .inl (Jh.2 (.inl h))
  ·rcases A x (JD.1 h) with e|e
   ·exact .inl (Jh.2 (.inr (JD.2 e)))
   ·exact .inr e
 ·unfold Zk.own at k⊢;rw[List.nodup_append] at k⊢;refine⟨k.1, ?_,fun x h F R=>?_⟩
  ·show (c.ownBlock.toList).Nodup;cases c.ownBlock <;> simp
  ·rcases A F (JD.1 R) with e|e
   ·exact k.2.2 x h F (JD.2 e)
   ·have:=(j.txt.lt x (JD.1 h)).2;omega
end
