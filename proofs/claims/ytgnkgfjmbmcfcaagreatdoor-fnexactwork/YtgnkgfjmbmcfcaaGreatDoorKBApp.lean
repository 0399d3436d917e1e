import Derived.Test.YtgnkgfjmbmcfcaaGreatDoorKBWith
import Derived.Test.YtgnkgfjmbmcfcaaGreatDoorKBEnd
set_option maxRecDepth 100000
set_option maxHeartbeats 25600000
namespace Go.Proofs.YtgnkgfjmbmcfcaaGreatDoor
open Go.RowKit Go.Proofs.Tryz
def Zk.fresh(nb:Nat)(n:Qw)(cost:Int)(steps:List Xq)(sa:Qx)(sc:Nat):Zk:=⟨nb,Q_.fresh n,cost,steps,sa,sc,0,.slice none 0 0,.slice none 0 0,[],⟨#[]⟩⟩
def KR(Kq:List Qz)(ts:List Zk)(n:Qw)(ts':List Zk):Prop:=
 (ts'=ts/\(Kk Kq n=none\/∃t∈ts,t.r.name=n))\/(∃p new,ts'=ts.take p++new :: ts.drop p/\new.r=Q_.fresh n/\(new.op=0/\new.bq= (⟨#[]⟩,[]))/\(∀t∈ts,t.r.name≠n)/\(Kk Kq n).isSome=true)
theorem FN{l:List Q_}{p:Nat}{r:Q_}(h:dB l)(e:∀x∈l.take p,aH x.name r.name)(h2:∀x∈l.drop p,aH r.name x.name):dB (l.take p++r :: l.drop p):=by
 have a:dB (l.take p++l.drop p):=by rw[Qa];exact h
 unfold dB at a⊢;rw[Py] at a⊢;refine⟨a.1,Qs.2 ⟨h2,a.2.1⟩,fun x c y b=>?_⟩;rcases PS.1 b with rfl | b
 ·exact e x c
 ·exact a.2.2 x c y b
section
variable {G : cO} {Kq : List Qz} {wz w w' : Qy} {bb : Nat} {a : Qx} {cap : Nat} {rd : Qx} {rn rc : Nat} {mb mx : Nat} {ts : List Zk} {d : Qx} {dc : Nat} {f : Qw -> QA} {ws : Qw -> List Nat}
theorem BM.insert(h:BM G Kq wz w bb a cap rd rn rc mb mx ts d dc f ws){l:Qy}{n:Qw}{new:Zk}(k:K_ w l)(L:lJ wz.heap.size l new)(M:new.r.name=n)(T:Kk Kq n=some ⟨new.cost,new.steps⟩)(U:Steps wz new.sa new.steps)(V:∀t∈ts,t.r.name≠n)(W:w.heap.size<=new.tb)(H:new.own=[])(X:new.qs=[]){z:Qx}{A base m q:Nat}(P:w.heap.size<=base)(hm:m=ts.length+1)(I:l.ownsRow base 145 1 (.slice z m A) m ((ts.map Zk.ptr).take q++ .pointer (some ⟨new.tb,0,none⟩) :: (ts.map Zk.ptr).drop q))(N:Place (ji ts) n.toList q):
  BM G Kq wz ((l.setCell ⟨bb,3,none⟩ (.slice z m A)).setCell ⟨bb,4,none⟩ (.func (.func 63) #[] #[])) bb a cap rd rn rc mb mx (ts.take q++new :: ts.drop q) z A f ws:=by
 have i:=h.kept k;have zb:=h.row.lt;have v:But (fun b=>b=bb) l ((l.setCell ⟨bb,3,none⟩ (.slice z m A)).setCell ⟨bb,4,none⟩ (.func (.func 63) #[] #[])):=But.set (S:=fun b=>b=bb) (But.set (S:=fun b=>b=bb) (But.aj (K_.refl l)) (p:=⟨bb,3,none⟩) rfl _) (p:=⟨bb,4,none⟩) rfl _;have J:(ts.take q++new :: ts.drop q).length=m:=by have:=N.le;rw[dQ] at this;simp[List.length_take,List.length_drop];omega
 have B:∀u,u∈ts.take q++new :: ts.drop q↔u=new\/u∈ts:=fun u=>by
  rw[Pe,PS];constructor
  ·rintro (h|h|h)
   ·exact .inr (List.mem_of_mem_take h)
   ·exact .inl h
   ·exact .inr (List.mem_of_mem_drop h)
  ·rintro (h|h)
   ·exact .inr (.inl h)
   ·rw[<-Qa q ts] at h;rcases Pe.1 h with h|h
    ·exact .inl h
    ·exact .inr (.inr h)
 have C:∀{b:Nat} {t:TypeId},bZ l b t->t≠128->¬b=bb:=fun c Y g=>aA c i.row.type Y g
 obtain⟨Z,a0,hN,Q,hf⟩:=i.map;have nm:¬mb=bb:=fun g=>ib Q i.row.type g.symm
 have fu:∀u∈ts.take q++new :: ts.drop q,lJ wz.heap.size ((l.setCell ⟨bb,3,none⟩ (.slice z m A)).setCell ⟨bb,4,none⟩ (.func (.func 63) #[] #[])) u:=fun u c=>by
  rcases (B u).1 c with rfl|c
  ·exact L.but v (C L.row.type (by decide)) (fun x e=>C (L.dY e).1 (by decide))
  ·have y:=i.fu u c;exact y.but v (C y.row.type (by decide)) (fun x e=>C (y.dY e).1 (by decide))
 have a1:Fen G ((l.setCell ⟨bb,3,none⟩ (.slice z m A)).setCell ⟨bb,4,none⟩ (.func (.func 63) #[] #[])) bb mb (ts.take q++new :: ts.drop q) f:=by
  have D:=i.oth.but v (fun b g=>by rw[g];exact h.oth.nb);refine⟨D.size,D.lt,D.same,D.nb,D.nm,fun u c=>?_,D.nf,fun a2 hp=>by obtain⟨u,c,p⟩:=h.oth.has a2 hp;exact⟨u,(B u).2 (.inr c),p⟩⟩;rcases (B u).1 c with rfl | c
  ·exact⟨h.oth.far W,fun x e=>by rw[H] at e;cases e⟩
  ·exact h.oth.nt u c
 refine⟨v.kept i.kw (fun b g=>by rw[g];exact h.low),(i.row.set _).set _, ?_, ?_, ?_, ?_,bH (i.row.set _).row (by omega) _, ?_,h.low, ?_,fu, ?_, ?_, ?_, ?_, ?_,⟨Z,a0,hN,iB Q v nm,hf⟩,h.CG,fun K=>v.owns (i.iU K) (fun b g=>C (Y_ (i.iU K) g) (by decide)),h.Af,fun K x e g=>?_,fun u c=>by rcases (B u).1 c with rfl | c;rw[X];exact OW _;exact h.qb u c,a1,fun x e a3=>h.oth.far (OX P (I.lt x (by rw[J] at e;exact e)).1) a3.2⟩
 ·rw[Xk (by omega),Xk (by omega)];exact i.c0
 ·rw[Xk (by omega),Xk (by omega)];exact i.c1
 ·rw[Xk (by omega),Xk (by omega)];exact i.c2
 ·rw[Xk (by omega),J];exact bH i.row.row (by omega) _
 ·rw[Xk (by omega),Xk (by omega)];exact i.c5
 ·rw[J];have g:(ts.take q++new :: ts.drop q).map Zk.ptr= (ts.map Zk.ptr).take q++ .pointer (some ⟨new.tb,0,none⟩) :: (ts.map Zk.ptr).drop q:=by simp[List.map_take,List.map_drop,Zk.ptr]
  rw[g];exact v.owns (df I (OX h.kw.size P)) (fun b g=>C (Y_ I g) (by decide))
 ·intro u c;rcases (B u).1 c with rfl|c
  ·rw[M];exact⟨T,U⟩
  ·exact h.act u c
 ·have g:Qj (ts.take q++new :: ts.drop q)= (Qj ts).take q++new.r :: (Qj ts).drop q:=by simp[Qj,List.map_take,List.map_drop]
  rw[g];refine FN h.asc (fun x e=>?_) (fun x e=>?_)
  ·obtain⟨j,E,rfl⟩:=Ph e;rw[Pt] at E;rw[PI];have F:j<ts.length:=by simp[Qj] at E;omega
   have:=N.before j (by omega);unfold nameAt at this;rw[iQ F] at this;rw[M];simpa[Qj,aH] using this
  ·obtain⟨j,E,rfl⟩:=Ph e;rw[List.length_drop] at E;rw[List.getElem_drop];have F:q+j<ts.length:=by simp[Qj] at E;omega
   have:=N.behind (q+j) (by omega) (by rw[dQ];exact F);unfold nameAt at this;rw[iQ F] at this;rw[M];have e2:(Qj ts)[q+j]=ts[q+j].r:=by simp[Qj]
   rw[e2];rcases b_ n ts[q+j].r.name with p|p|p
   ·exact p
   ·exact Qi p.symm (V _ (Pf F))
   ·unfold aH at p;rw[this] at p;cases p
 ·have g:(ts.take q++new :: ts.drop q).map (·.tb)= (ts.map (·.tb)).take q++new.tb :: (ts.map (·.tb)).drop q:=by simp[List.map_take,List.map_drop]
  rw[g];have R:∀x∈ts.map (·.tb),x<new.tb:=fun x e=>by
   obtain⟨t,y,rfl⟩:=Pv.1 e;have:=(h.fu t y).row.lt;omega
  have s:((ts.map (·.tb)).take q++ (ts.map (·.tb)).drop q).Nodup:=by rw[Qa];exact h.tbs
  rw[List.nodup_append] at s⊢;refine⟨s.1,List.nodup_cons.2 ⟨fun e=>?_,s.2.1⟩,fun x e a4 O=>?_⟩
  ·have:=R _ (List.mem_of_mem_drop e);omega
  ·rcases PS.1 O with rfl|O
   ·have:=R _ (List.mem_of_mem_take e);omega
   ·exact s.2.2 x e a4 O
 ·have s:(ts.take q++ts.drop q).Pairwise fun t u=>∀x∈t.own,x∉u.own:=by rw[Qa];exact h.sep
  rw[Py] at s⊢;refine⟨s.1,Qs.2 ⟨fun u _ x e=>(by rw[H] at e;cases e),s.2.1⟩,fun t y u c x e=>?_⟩;rcases PS.1 c with rfl | c
  ·rw[H];simp
  ·exact s.2.2 t y u c x e
 ·intro u c;rcases (B u).1 c with rfl|c
  ·rw[H];exact List.nodup_nil
  ·exact h.Ad u c
 ·have h1:=((h.iU K).lt x e).2;rw[J] at g;have h2:=(I.lt x g).1;omega
theorem vJ(v:BM G Kq wz w bb a cap rd rn rc mb mx ts d dc f ws)(n:Qw)(hl:ts.length<=90)(a6:Kq.length<=1048576)(L:mV Kq)(V:bJ wz a Kq):
  Calls prog 64 #[.pointer (some ⟨bb,0,none⟩),.string n] w fun e w'=>e= .returned (.tuple #[])/\∃ts' d' dc',BM G Kq wz w' bb a cap rd rn rc mb mx ts' d' dc' f ws/\KR Kq ts n ts':=by
 have b0:=v.c0;have b1:=v.c1;have zk:=v.row.lt;have r:=Kz v;clear v;go_enter func64,ntmps64
 go_wp2_with fail
 refine (Lu _ a cap Kq n a6 L (V.kept r.o.kw)).mono ?_;rintro e w1 ⟨⟨p,fd,rfl,W,X⟩,x⟩;have⟨Y,M⟩:=aD W X;have b8:=(r.o.kept x).row.lt;clear W X b0 b1;cases fd
 ·go_wp2_with fail
  refine bodyPost_ret (results_none rfl _ _ _) rfl ?_;refine⟨rfl,ts,d,dc,r.o.kept x,.inl ⟨rfl,.inl (AP fun E l e=>?_)⟩⟩;have z:nameAt Kq E=n.toList:=by unfold nameAt;rw[e]
  have e2:=Place.only L Y.o l z;rw[e2] at l z;have:=M.o.2 ⟨l,z⟩;cases this
 have Z:=(M.o.1 rfl).1;have N:Hid (Kk Kq n=some ⟨(Kq.getD p Qz.zero).cost,(Kq.getD p Qz.zero).steps⟩):=BL Z (toList_inj.1 (M.o.1 rfl).2) (fun E l e=>by
  have z:nameAt Kq E=n.toList:=by unfold nameAt;rw[e]
  have:=Place.only L Y.o (by omega) z;omega)
 go_wp2_with fail
 refine (qM (r.o.kept x) n (by omega)).mono ?_;rintro e A ⟨⟨i,hi,a7,rfl⟩|⟨a0,rfl⟩,k2⟩
 ·have a1:ts[i].ptr= .pointer (some ⟨ts[i].tb,0,none⟩):=rfl;rw[a1];clear a1;go_wp2_with fail
  refine bodyPost_ret (results_none rfl _ _ _) rfl ?_;exact⟨rfl,ts,d,dc,r.o.kept (x.trans k2),.inl ⟨rfl,.inr ⟨ts[i],Pf hi,a7⟩⟩⟩
 have a9:=x.trans k2;have j:=r.o.kept a9;obtain⟨b,o,cs,rfl,O,F,c,g,rfl,P⟩:=V p Z;obtain⟨y,hy⟩:=ag (Kq.getD p Qz.zero);rw[<-hy] at F P N;have hb:b<A.heap.size:=OV O j.kw.size;have c1:A.cell? ⟨b,o+p*3+1,none⟩=some (.int .i64 y.cost):=(j.kw.cell O).trans (F 1 _ rfl);have c2:A.cell? ⟨b,o+p*3+2,none⟩=some (.slice c y.steps.length g):=(j.kw.cell O).trans (F 2 _ rfl);have m0:=j.c0;have m3:=j.c3;have m4:=j.c4;have Q:=j.row.lt;have⟨s,R,HA⟩:=bA j a0 P;have H:Hid (∀w',K_ A w'->w'.cell? ⟨bb,0,none⟩=some (.slice (some ⟨b,o,none⟩) Kq.length cap)/\w'.cell? ⟨bb,3,none⟩=some (.slice d ts.length dc)/\w'.cell? ⟨bb,4,none⟩=some (.func (.func 63) #[] #[])/\w'.cell? ⟨b,o+p*3+1,none⟩=some (.int .i64 y.cost)/\w'.cell? ⟨b,o+p*3+2,none⟩=some (.slice c y.steps.length g)):=fun w' B=>⟨(B.cell Q).trans m0,(B.cell Q).trans m3,(B.cell Q).trans m4,(B.cell hb).trans c1,(B.cell hb).trans c2⟩
 have b9:(p:Int)<(Kq.length:Int):=by omega
 clear F P hy j a0 c1 c2 m0 m3 m4;go_upto_region 2 with fail
 refine aR 21 H.o fun h KD k=>?_
 refine af 0 k ?_;refine af 4 k ?_;refine af 8 k ?_;refine af 12 k ?_;refine ae 16 k ?_;refine ay 17 (fun K m=>?_);go_simp
 have K3:K_ h (h.alloc (.cells #[.string n,.bool false,.bool false,.string ⟨#[]⟩,.int .i64 0,.int .i64 0,.slice none 0 0,.int .i64 y.cost,.slice c y.steps.length g,.int .i64 0,.slice none 0 0,.string ⟨#[]⟩] 153)):=ak _ _;have C:aL (h.alloc (.cells #[.string n,.bool false,.bool false,.string ⟨#[]⟩,.int .i64 0,.int .i64 0,.slice none 0 0,.int .i64 y.cost,.slice c y.steps.length g,.int .i64 0,.slice none 0 0,.string ⟨#[]⟩] 153)) h.heap.size 153 12:=aL.made h _ _;have D:(h.alloc (.cells #[.string n,.bool false,.bool false,.string ⟨#[]⟩,.int .i64 0,.int .i64 0,.slice none 0 0,.int .i64 y.cost,.slice c y.steps.length g,.int .i64 0,.slice none 0 0,.string ⟨#[]⟩] 153)).rangeAt h.heap.size 0 [.string n,.bool false,.bool false,.string ⟨#[]⟩,.int .i64 0,.int .i64 0,.slice none 0 0,.int .i64 y.cost,.slice c y.steps.length g,.int .i64 0,.slice none 0 0,.string ⟨#[]⟩]:=X_ h _ _;have t:=KD.trans K3;refine m.out _ _ (fun _=>H.o _ t) ?_;clear m K k;have zd:=KD.size;obtain⟨q,a2⟩:=ag h.heap.size;have b2:A.heap.size<=q:=by omega
 rw[<-a2] at C D⊢;generalize b3:h.alloc (.cells #[.string n,.bool false,.bool false,.string ⟨#[]⟩,.int .i64 0,.int .i64 0,.slice none 0 0,.int .i64 y.cost,.slice c y.steps.length g,.int .i64 0,.slice none 0 0,.string ⟨#[]⟩] 153)=T at C D t⊢;clear b3 K3 a2;have a3:T.cell? ⟨q,0,none⟩=some (.string n):=D 0 _ rfl;have U:=Kz (JF T d dc (ji ts) ⟨n,0,[]⟩ (ts.map Zk.ptr) wz.heap.size q (by rw[dQ];omega) (uA s.o.asc) (fun E l e=>by rw[dQ] at l;unfold nameAt at e;rw[iQ l] at e;exact R.o _ (Pf l) (toList_inj.1 e)) (by rw[dQ];exact (s.o.kept t).items) (s.o.kept t).packed C.lt a3);rw[dQ] at U;have a4:Hid (lJ wz.heap.size T (Zk.fresh q n y.cost y.steps c g)):=⟨C,D,PU _ _ _ _,PU _ _ _ _,by have:=s.o.kw.size;show wz.heap.size<=q;omega⟩;clear a3 D C;try simp only[Act.put,upA,upB,upC]
 refine ax 18 (fun K m=>?_);go_simp
 go_at_call 114
 refine U.o.mono ?_;rintro e w8 ⟨c5,a8,b4,c6,b5,hm,rfl,b6,a5,hq,k8⟩;have I:=t.trans k8;have J:=s.o.kept I;obtain⟨⟨_,x3⟩,f3⟩:=J.row.row.at (i:=3) (by omega);obtain⟨⟨_,x4⟩,f4⟩:=J.row.row.at (i:=4) (by omega);have c7:=J.row.lt;have HI:=Kz (s.o.insert (n:=n) (new:=Zk.fresh q n y.cost y.steps c g) I (a4.o.but (S:=fun _=>False) (But.aj k8) id (fun _ _=>id)) rfl N.o HA.o R.o b2 rfl rfl (by have h1:=t.size;exact OX h1 b6) (by rw[<-dQ ts];exact hm) a5 hq);clear a5 J hq hm U a4;refine m.out _ _ (fun _=>H.o _ I) ?_;clear m K;have k:=H.o _ I;try simp only[Act.put,upA,upB,upC]
 refine ae 19 k ?_;refine ae 20 k ?_;refine ay 21 (fun K m=>?_);go_simp
 refine m.out _ _ (fun b7=>Qi rfl b7) ?_;clear m K;try simp only[Act.put,upA,upB,upC]
 refine az ?_;go_wp2
 go_end0
 exact⟨rfl,_,a8,b4,HI.o,.inr ⟨b5,Zk.fresh q n y.cost y.steps c g,rfl,rfl,⟨rfl,rfl⟩,R.o,by rw[N.o];rfl⟩⟩
end
section
variable {P : Program} {w : Qy}
theorem oK(base:Nat)(t b e:TypeId)(i:TypeInfo)(size:Nat)(a:P.underlying t=some (.slice e))(hi:P.info? e=some i)
  (v:QA) (n:Nat) (d:List QA) (f:w.ownsRow base e size v n d) (x:Qx) (c:Nat):
  (Builtin.append_ #[t,t] b #[v,.slice x 0 c]).run P w= .ok v w:=by
 rcases f.2 with⟨rfl,rfl⟩|⟨h,j,k,rfl,_,_,g,_⟩
 ·cases x <;> simp[Builtin.append_,run_underlying a,sizeOf,typeInfo,hi,Builtin.lenOf,Builtin.firstCells,loadCells,loadCellsFrom]
 ·cases x <;> simp[Builtin.append_,run_underlying a,sizeOf,typeInfo,hi,Builtin.lenOf,Builtin.firstCells,g,storeCells,loadCells,loadCellsFrom]
theorem fH{o:Oper}{a:Act}{K:Act->Qy->Prop}{Q:Exit->Act->Qy->Prop}(s x:Operand)(t:TypeId)
  (y:o.op= .call {callee:= .builtin .append,args:= #[s,x],argTypes:= #[t,t]})
  (base:Nat) (e:TypeId) (i:TypeInfo) (z:QA) (j:Nat) (A:P.underlying t=some (.slice e)) (hi:P.info? e=some i) (G:i.zero=some z)
  (H:i.size=1) (I:i.bytes=j) (J:z.cells.size=1)
  (v:QA) (n:Nat) (f:List QA) (B:a.eval s=v) (k:w.ownsRow base e 1 v n f)
  (m:Qx) (c:Nat) (l:List Qw) (p:a.eval x= .slice m l.length c) (C:Strs w m l)
  (L:n+l.length<=maxLen) (M:(n+l.length)*j<=140737488355328) (N:base<=w.heap.size)
  (h:∀v' w',w'.ownsRow base e 1 v' (n+l.length) (f++l.map Value.string)->w.grownBy w' v.ownBlock->(∀g,v'.ownBlock=some g->v.ownBlock=some g\/w.heap.size<=g)->K (a.put o.dst v') w'):o.wp P a w K Q:=by
 by_cases D:l.length=0
 ·have O:=Pk.1 D;rw[D] at p;refine Go.Lib.wp_append_run w s x t t y v _ B p v w (oK base t o.type e i 1 A hi v n f k m c) (h v w ?_ ⟨rfl,rfl,rfl,OU _,fun _ _ _=>rfl⟩ (fun g e=>.inl e));rw[O];simpa using k
 ·obtain⟨R,S,E,W,_⟩:=C 0 (by omega);refine wp_append_lies w s x t y base e i z 1 j A hi G H I J (by decide) v n f B k ⟨R,S,none⟩ l.length c (l.map Value.string) (by rw[p,E]) (by simp) (fun F u b=>?_) (fun u b=>by obtain⟨x,_,rfl⟩:=Pv.1 b;rfl) (by omega) L M N w.heap.size rfl (fun g X w' T U d Y=>h _ w' T U (fun Z e=>?_))
  ·have q:F<l.length:=by have:=(O_.1 b).1;simpa using this
   obtain⟨b',q',r,_,V⟩:=C F q;rw[E] at r;simp only[PN,Qt,and_true] at r;obtain⟨rfl,rfl⟩:=r;rw[PQ,V];simp[q] at b;simp[List.getD,q,b]
  ·simp only[Value.ownBlock,PN] at e;subst e;rcases d with d|d
   ·exact .inl d
   ·exact .inr (Pw d.symm)
theorem iH{j:Array Oper}{rest:List Oper}{o:Oper}{a:Act}{Q:Exit->Act->Qy->Prop}(hgd:o.guard=none)(s x:Operand)(t:TypeId)
  (k:o.op= .call {callee:= .builtin .append,args:= #[s,x],argTypes:= #[t,t]})
  (base:Nat) (e:TypeId) (i:TypeInfo) (z:QA) (d:Nat) (m:P.underlying t=some (.slice e)) (hi:P.info? e=some i) (p:i.zero=some z)
  (q:i.size=1) (r:i.bytes=d) (y:z.cells.size=1)
  (v:QA) (n:Nat) (f:List QA) (A:a.eval s=v) (B:w.ownsRow base e 1 v n f)
  (h:Qx) (c:Nat) (l:List Qw) (C:a.eval x= .slice h l.length c) (D:Strs w h l)
  (E:n+l.length<=maxLen) (F:(n+l.length)*d<=140737488355328) (G:base<=w.heap.size)
  (H:∀b w',w'.ownsRow base e 1 b (n+l.length) (f++l.map Value.string)->w.grownBy w' v.ownBlock->(∀g,b.ownBlock=some g->v.ownBlock=some g\/w.heap.size<=g)->wpList P j Q rest (a.put o.dst b) w'):wpList P j Q (o :: rest) a w:=
 wpList_plain hgd fun _ I=>fH s x t k base e i z d m hi p q r y v n f A B h c l C D E F G fun b w' J K L=>I _ _ (H b w' J K L)
end
section
variable {G : cO} {Kq : List Qz} {wz w w' : Qy} {bb : Nat} {a : Qx} {cap : Nat} {rd : Qx} {rn rc : Nat} {mb mx : Nat} {ts : List Zk} {d : Qx} {dc : Nat} {f : Qw -> QA} {ws : Qw -> List Nat}
theorem BM.asked(m:BM G Kq wz w bb a cap rd rn rc mb mx ts d dc f ws){i:Nat}{t:Zk}(hi:ts[i]? =some t){w1:Qy}{c:QA}{l:List QA}(y:w1.ownsRow wz.heap.size 9 1 c (t.qs.length+l.length) (t.qs++l))(q:w.grownBy w1 t.qv.ownBlock)(z:∀g,c.ownBlock=some g->t.qv.ownBlock=some g\/w.heap.size<=g)(Q:l.length<=5):
  BM G Kq wz (w1.setCell ⟨t.tb,10,none⟩ c) bb a cap rd rn rc mb (mx+1) (ts.set i {t with qv:=c,qs:=t.qs++l}) d dc f ws:=by
 obtain⟨n,rfl⟩:=O_.1 hi;have j:=m.fu _ (Pf n);have k:=m.Ad _ (Pf n);have F:But (fun b=>b=ts[i].tb\/b∈ts[i].own) w w1:=But.aQ q (fun b e=>.inr (Pe.2 (.inr (PH.2 e))));have H:But (fun b=>b=ts[i].tb\/b∈ts[i].own) w (w1.setCell ⟨ts[i].tb,10,none⟩ c):=But.set F (p:=⟨ts[i].tb,10,none⟩) (.inl rfl) c;have I:∀b,ts[i].qv.ownBlock=some b->ts[i].tb≠b:=fun b e=>aA j.row.type (Y_ j.ask e) (by decide)
 have A:w1.heap[ts[i].tb]? =w.heap[ts[i].tb]? :=q.block _ j.row.lt (fun e=>I _ e.symm rfl);have s:aL w1 ts[i].tb 153 12:=j.row.block A;have J:w1.rangeAt ts[i].tb 0 ts[i].cells:=fun K u v=>(Pi (w:=w) A).trans (j.rng K u v)
 have B:∀{b:Nat},bZ w1 b 9->b≠ts[i].tb:=fun v=>aA v s.type (by decide)
 have C:But (fun b=>b=ts[i].tb) w1 (w1.setCell ⟨ts[i].tb,10,none⟩ c):=But.set (S:=fun b=>b=ts[i].tb) (But.aj (K_.refl w1)) (p:=⟨ts[i].tb,10,none⟩) rfl c;have D:w1.ownsRow wz.heap.size 9 1 ts[i].tv ts[i].r.texts.length (ts[i].r.texts.map Value.string):=(But.aQ (S:=fun b=>ts[i].qv.ownBlock=some b) q (fun b e=>e)).owns j.txt (fun b e L=>by
  have M:b∈ts[i].tv.ownBlock.toList:=PH.2 e;have N:b∈ts[i].qv.ownBlock.toList:=PH.2 L;unfold Zk.own at k;exact (List.nodup_append.1 k).2.2 b M b N rfl)
 refine (m.more (Nat.le_succ mx)).turn n H (fun b O=>O) ⟨s.set c,ql J s.row (by omega) c,C.owns D (fun b e=>B (Y_ D e)), ?_,j.low⟩ rfl rfl rfl rfl rfl (fun x h=>?_) ?_ (by have:=m.qb _ (Pf n);show (ts[i].qs++l).length<=5*(mx+1);rw[PM];omega)
 ·have e:({ts[i] with qv:=c,qs:=ts[i].qs++l}:Zk).qs.length=ts[i].qs.length+l.length:=by simp
  rw[e];exact C.owns y (fun b e=>B (Y_ y e))
 ·unfold Zk.own at h⊢;rcases Pe.1 h with h|h
  ·exact .inl (Pe.2 (.inl h))
  ·rcases z x (PH.1 h) with e|e
   ·exact .inl (Pe.2 (.inr (PH.2 e)))
   ·exact .inr e
 ·unfold Zk.own at k⊢;rw[List.nodup_append] at k⊢;refine⟨k.1, ?_,fun x h E P=>?_⟩
  ·show (c.ownBlock.toList).Nodup;cases c.ownBlock <;> simp
  ·rcases z E (PH.1 P) with e|e
   ·exact k.2.2 x h E (PH.2 e)
   ·have:=(j.txt.lt x (PH.1 h)).2;omega
end
