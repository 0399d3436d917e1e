import Derived.Test.YtgnkgfjmbmcfcaaGreatDoorKCTold
import Derived.Test.YtgnkgfjmbmcfcaaGreatDoorKXToldL
set_option maxRecDepth 100000
set_option maxHeartbeats 25600000
namespace Go.Proofs.YtgnkgfjmbmcfcaaGreatDoor
open Go.RowKit Go.Proofs.Tryz
def Lf(E:Qw->Qw->Prop)(w w':Qy)(e:Ending):Prop:=
 ∃(da:Qx) (ns:List Qw),e= .returned (.slice da ns.length ns.length)/\cZ w' w.heap.size w'.heap.size da ns/\ns.length<=60/\uP E ns/\K_ w w'
theorem D_(w:Qy)(q:Nat)(j:Qw->Prop)(c:Qw->List Qw)(all:List Qw)(E:∀s,j s->s∈all)(F:all.length<=60)(G:∀s,j s->s.size<=20)(X:∀s,(c s).length<=1000000)(H:xC w q j c):
  Calls prog 83 #[.map (some q)] w fun e w'=>Lf (fun x y=>y∈c x) w w' e:=by
 go_enter func83,ntmps83
 go_wp2_with fail
 refine (CS w q j c all E F G X H).mono ?_;rintro e d ⟨f,g,a,k,l,Y,Z,back,rfl,r,m,I,J,hM,L⟩;have a0:a.length<=60:=by
  refine OX (List.Nodup.length_le_of_subset ?_ (fun x hx=>E x ((m x).1 hx))) F;exact r.imp fun {b1 b2} a1=>fE a1
 have a2:Hid (jg (fun x y=>y∈c x) a):=⟨r,fun x y M=>(m x).2 (H.sub x (fun e=>by rw[e] at M;cases M))⟩;have a3:Hid (∀s∈a,s.size<=1048576):=fun s hs=>by have:=G s ((m s).1 hs);omega
 have N:=Kz J;obtain⟨t,i⟩:=ag (d.alloc (.cells #[.slice f a.length g,.slice (some ⟨k,0,none⟩) a.length a.length,.slice (some ⟨l,0,none⟩) a.length a.length] 203));have v:K_ d t:=by rw[i];exact ak _ _
 obtain⟨z,A⟩:=ag d.heap.size;have n:Hid (∀u,K_ t u->u.cell? ⟨z,0,none⟩=some (.slice f a.length g)/\u.cell? ⟨z,1,none⟩=some (.slice (some ⟨k,0,none⟩) a.length a.length)/\u.cell? ⟨z,2,none⟩=some (.slice (some ⟨l,0,none⟩) a.length a.length)):=fun u B=>by
  have C:d.heap.size<t.heap.size:=by rw[i];simp
  have h:=X_ d #[.slice f a.length g,.slice (some ⟨k,0,none⟩) a.length a.length,.slice (some ⟨l,0,none⟩) a.length a.length] 203;rw[<-i] at h;rw[A];exact⟨(B.cell C).trans (h 0 _ rfl),(B.cell C).trans (h 1 _ rfl),(B.cell C).trans (h 2 _ rfl)⟩
 have O:=Kz (I.kept v);have a4:=Kz (L.trans v);have⟨a5,a6⟩:=aD i A;clear r m I J L v i A;go_upto_region 2 with fail
 rw[<-a5.o,<-a6.o];refine aR 4 n.o fun wd P D=>?_
 refine ae 0 D ?_;refine ae 1 D ?_;refine ax 2 (fun K b=>?_);go_simp
 go_at_call 134
 refine (FB wd f g a k l Z back _ Y a0 hM (O.o.kept P) N.o).mono ?_;rintro e w3 ⟨pa,pc,Q,rfl,R,a7,S,T,k3⟩;have p:=P.trans k3;have⟨a8,a9,b0⟩:=bA R T S;clear R T S;dsimp only;refine b.out _ _ (fun _=>n.o _ p) ?_;clear b K D;try simp only[Act.put,upA,upB,upC]
 refine ax 3 (fun K b=>?_);go_simp
 go_at_call 133
 refine (Le w3 f g a _ _ rfl rfl pa pc Q b0.o (by omega) (by omega) a3.o (O.o.kept p).names a8.o).mono ?_;rintro e w4 ⟨da,rfl,U,V⟩;have K4:=p.trans V;have HT:=Kz U;have W:=Kz (a4.o.trans p);clear U;dsimp only;refine b.out _ _ (fun _=>n.o _ K4) ?_;clear b K;try simp only[Act.put,upA,upB,upC]
 refine ay 4 (fun K b=>?_);go_simp
 refine b.out _ _ (fun h=>Qi rfl h) ?_;clear b K;try simp only[Act.put,upA,upB,upC]
 refine az ?_;clear n N;go_wp2
 go_ret
 refine⟨da,Q.map (nameOf a),by rw[Qc];rfl,HT.o.mono W.o.size (OU _),by rw[Qc];exact a7,a9.o.Ob a2.o,W.o.trans V⟩
def NA(P:rD->Prop)(w w':Qy)(e:Ending):Prop:=
 ∃(o:rD) (a f:Qx) (c e0 mid:Nat),e= .returned (.agg #[.int .i64 o.code,.slice a o.res.length c,.slice f o.chain.length e0,.int .i64 o.aY,.int .i64 o.cost])/\P o/\fI w' w.heap.size mid a o.res/\cZ w' mid w'.heap.size f o.chain/\w.heap.size<=mid/\mid<=w'.heap.size/\K_ w w'
theorem nT{w:Qy}{lo hi g:Nat}{vs:List QA}{a:Qx}{l:List dh}(h:fI w lo hi a l)(c:g<lo\/hi<=g):fI (w.setCells g 0 vs) lo hi a l:=h.same (Same.setCells c vs 0 w)
theorem Ck{w:Qy}{lo hi g:Nat}{vs:List QA}{a:Qx}{l:List Qw}(h:cZ w lo hi a l)(c:g<lo\/hi<=g):cZ (w.setCells g 0 vs) lo hi a l:=h.same (Same.setCells c vs 0 w)
section
variable {G : cO} {Kq : List Qz} {wz w w' : Qy} {bb : Nat} {a : Qx} {cap : Nat} {rd : Qx} {rc : Nat} {mb mx : Nat} {ts : List Zk} {d : Qx} {dc : Nat} {f : Qw -> QA} {ws : Qw -> List Nat}
theorem z_(b:List Qw)(l:List Q_)(hB:BM G Kq wz w bb a cap rd b.length rc mb mx ts d dc f ws)(f2:BS Kq ts ws)(k4:mx<=9000)(K:iN Kq b l)(c6:Qj ts=l)(hR:Strs w rd b):
  Calls prog 32 #[.pointer (some ⟨bb,0,none⟩)] w fun e w'=>NA (iE Kq b l) w w' e:=by
 have⟨x,b5,a5,L,c7⟩:=dX hB f2 K c6 K.good;have b6:=lK K.1;have c8:=x.o.len (nS K.1);have k5:l.length<=60:=OX K.good.len (nS K.1);have d0:b.length<=10:=K.2.1.2.1;have f3:Hid (∀z∈b,z.size<=20):=fun z M=>by
  obtain⟨n,hi,rfl⟩:=Ph M;have p:=(K.2.1.2.2 n hi).1.2.1;simpa[List.getD,hi] using p
 have d1:Hid (∀z∈b,(∃O∈ts,O.r.name=z)\/Kk Kq z=none):=fun z M=>by
  rcases K.Nb z M with⟨n3,h1,f4⟩|h1
  ·rw[<-c6] at h1;obtain⟨O,ht,e⟩:=Pv.1 h1;exact .inl ⟨O,ht,by rw[e];exact f4⟩
  ·exact .inr h1
 have n4:=x.o.row.lt;clear hB f2 K c6;obtain⟨W0,a6⟩:=ag (w.alloc (.cells #[.int .i64 0,.slice none 0 0,.slice none 0 0,.int .i64 0,.int .i64 0] 31));have k0:K_ w W0:=by rw[a6];exact ak _ _
 have z0:W0.heap.size=w.heap.size+1:=by rw[a6];simp
 have f5:Hid (aL W0 w.heap.size 31 5):=by rw[a6];exact aL.made w _ _
 have k6:=(x.o.kept k0).c2;go_enter func32,ntmps32
 go_upto_region 1 with fail
 rw[<-a6];clear a6;go_wp2_with fail
 refine (zD (x.o.kept k0) (by rw[L.o];exact a5.o.OP) (by omega) rd rc b (by omega) (fun z M=>⟨by have:=f3.o z M;omega,d1.o z M⟩) (fun z M=>by rw[L.o];have:=IU c7.o (f3.o z M);omega) (hR.kept k0)).mono ?_;rintro e w1 ⟨i,rfl,d2,k1⟩;obtain⟨Z,d3⟩:=ag (vT (Kk Kq) (Qq l));rw[L.o,<-d3] at d2;obtain⟨c,a2⟩:=ag w1.heap.size;obtain⟨t,a3⟩:=ag (w1.alloc (.cells #[.int .i64 0,.slice i b.length b.length,.slice none 0 0,.int .i64 0,.int .i64 0] 31));have k2:K_ w1 t:=by rw[a3];exact ak _ _
 have f6:Hid (gL t c t 0 (.slice i b.length b.length) 0 0):=by
  obtain⟨q0,q1,q2,q3,q4⟩:=kV (w:=w1) (w1:=t) (v0:= .int .i64 0) (v1:= .slice i b.length b.length) (v2:= .slice none 0 0) (v3:= .int .i64 0) (v4:= .int .i64 0) (t:=31) (by rw[a3];exact K_.refl _);rw[<-a2] at q0 q1 q2 q3 q4;exact⟨But.aj (K_.refl _),by rw[a3,a2];exact aL.made w1 _ _,q0,q1,q2,q3,q4⟩
 have n5:c<t.heap.size:=by rw[a3,a2];simp
 have n6:=k1.size;have n7:w.heap.size+1<=c:=by omega
 have f7:Hid (fI t W0.heap.size c i (b.map Z)):=by rw[a2];exact d2.same (k2.same _ _)
 have d4:=k0.trans (k1.trans k2);have f8:=Kz (f5.o.kept (k1.trans k2));have d5:=Kz d3;have HC:Hid (∀u,But (fun j=>j=c) t u->K_ w u/\aL u w.heap.size 31 5/\fI u W0.heap.size c i (b.map Z)/\t.heap.size<=u.heap.size):=fun u p=>⟨p.kept d4 (fun j e=>by rw[e];omega),p.row f8.o (fun (e:w.heap.size=c)=>by omega),f7.o.same (fun j h1 f4 _=>p.block j (by omega) (fun (e:j=c)=>by omega)),p.size⟩
 have c3:=(x.o.kept d4).c3;have n8:bb<t.heap.size:=by omega
 go_upto_region 2 with fail
 rw[<-a3,<-a2];clear a3 a2 k2 k1 f7 d3 d2 f5 f8 k6 d4;have f9:Hid (0=gq (l.take 0)/\0=ja (Kk Kq) (l.take 0)):=⟨rfl,rfl⟩;have n9:¬c=bb:=by omega
 go_wp2
 go_loopw [20] (fun d6 wr=>∃(n:Nat) (h g:Int),n<=ts.length/\d6= .int .i64 (n:Int)/\Hid (h=gq (l.take n)/\g=ja (Kk Kq) (l.take n))/\Hid (gL t c wr 0 (.slice i b.length b.length) h g)) (fun d6 _=>ts.length-(intOf d6).toNat)
 case atStart=>exact⟨0,0,0,OW _,rfl,f9,f6⟩
 case round=>
  clear f9 f6 c3;obtain⟨n,h,g,hi,rfl,HU,A⟩:=hrel;obtain⟨Kr,g0,g1,o5⟩:=HC.o wr A.o.but;have⟨g2,d1,g3⟩:=bA Kr g0 g1;clear Kr g0 g1;have g4:=Hl b6 c7.o k5 n;rw[<-HU.o.1,<-HU.o.2] at g4;have a7:(Qj ts).length=ts.length:=by simp[Qj]
  by_cases a0:n<ts.length
  ·have o6:(n:Int)<(ts.length:Int):=by omega
   obtain⟨a8,d7,d8⟩:=(x.o.kept g2.o).item a0;have o7:a8<w.heap.size:=by
    obtain⟨g',g5,_⟩:=x.o.item a0;rw[d7] at g5;cases g5;exact (x.o.items.lt a8 (by rw[d7];rfl)).2
   subst d7;obtain⟨tk,b7⟩:=ag (ts[n]);rw[<-b7] at d8;have b8:tk∈ts:=by rw[b7];exact Pf a0
   have hT:=(x.o.kept g2.o).fu tk b8;have b0:=(x.o.fu tk b8).row.lt;have t5:=hT.rng 5 _ rfl;have t7:=hT.rng 7 _ rfl;simp only[PD] at t5 t7;have d9:l[n]'(by rw[<-L.o,a7];exact a0)=tk.r:=by
    have p:(Qj ts)[n]'(by rw[a7];exact a0)=tk.r:=by rw[b7];simp[Qj]
    rw[<-p]
    congr 1
    exact L.o.symm
   have e0:n<l.length:=by rw[<-L.o,a7];exact a0
   have g6:tk.r∈l:=by rw[<-d9];exact Pf e0
   have e1:=c7.o.good tk.r g6;have hA:=((x.o).act tk b8).1;have e2:kr (Kk Kq) tk.r.name=tk.cost:=by rw[vk hA]
   have e3:=tZ b6 tk.r.name;rw[e2] at e3;have g7:0<=tk.r.Zq/\tk.r.Zq<=20:=⟨e1.lo,e1.hi⟩;have k7:=Ki g7 e3;have g8:Hid (h+tk.r.Zq=gq (l.take (n+1))/\g+tk.r.Zq*tk.cost=ja (Kk Kq) (l.take (n+1))):=by
    rw[Pb e0,vG,yR,d9,<-HU.o.1,<-HU.o.2,e2];exact⟨rfl,rfl⟩
   obtain⟨S,b1⟩:=ag tk.tb;obtain⟨v,b9⟩:=ag tk.r.Zq;obtain⟨P,c2⟩:=ag tk.cost;have k8:wr.cell? ⟨a8,n,none⟩=some (.pointer (some ⟨S,0,none⟩)):=by rw[b1];exact d8
   rw[<-b1,<-b9] at t5;rw[<-b1,<-c2] at t7;rw[<-b1] at b0;rw[<-b9,<-c2] at g8 k7;rw[<-b9] at g7;rw[<-c2] at e3;have o8:IntKind.i64.wrap (h+v)=h+v:=dK (by omega) (by omega);have o9:IntKind.i64.wrap (v*P)=v*P:=dK (by omega) (by omega);have p0:IntKind.i64.wrap (g+v*P)=g+v*P:=dK (by omega) (by omega);have g9:=A.o.row.lt;have e4:Hid (∀u:Qy,(∀j,j<w.heap.size\/j=c->u.heap[j]? =wr.heap[j]?)->u.cell? ⟨c,3,none⟩=some (.int .i64 h)/\u.cell? ⟨c,4,none⟩=some (.int .i64 g)/\u.cell? ⟨S,5,none⟩=some (.int .i64 v)/\u.cell? ⟨S,7,none⟩=some (.int .i64 P)):=fun u Q=>⟨(Pi (w:=wr) (Q c (.inr rfl))).trans A.o.c3,(Pi (w:=wr) (Q c (.inr rfl))).trans A.o.c4,(Pi (w:=wr) (Q S (.inl b0))).trans t5,(Pi (w:=wr) (Q S (.inl b0))).trans t7⟩
   have p1:a8<wr.heap.size:=by omega
   have p2:¬c=S:=by omega
   clear d8 hT t5 t7 d9 e0 g6 e1 hA e2 c2 b9 b1 b7 b8;go_upto_region 5 with fail
   refine sP 9 e4.o (fun _ _=>rfl) fun wd N B=>?_
   obtain⟨⟨_,e5⟩,e6⟩:=(A.o.kept N).row.row.at (i:=3) (by omega);have e7:=(A.o.kept N).row.lt;refine af 0 B ?_;refine af 4 B ?_;refine ae 8 B ?_;refine ay 9 (fun e8 hK=>?_);go_simp
   refine hK.out _ _ (fun p=>Qi rfl p) ?_;clear hK e8;try simp only[Act.put,upA,upB,upC]
   refine az ?_;clear e6 e5 e7;obtain⟨W5,b2⟩:=ag (wd.setCell ⟨c,3,none⟩ (.int .i64 (h+v)));rw[<-b2];have C:Hid (gL t c W5 0 (.slice i b.length b.length) (h+v) g):=by rw[b2];exact (A.o.kept N).OD _
   have l0:Hid (∀j,j≠c->j<wr.heap.size->W5.heap[j]? =wr.heap[j]?):=fun j hb hz=>by rw[b2,Below.heap_setCell _ _ _ _ hb];exact N.block j hz
   have l1:Hid (∀u:Qy,(∀j,j<w.heap.size\/j=c->u.heap[j]? =W5.heap[j]?)->u.cell? ⟨c,4,none⟩=some (.int .i64 g)/\u.cell? ⟨S,5,none⟩=some (.int .i64 v)/\u.cell? ⟨S,7,none⟩=some (.int .i64 P)):=fun u Q=>by
    have ho:=e4.o wr (fun _ _=>rfl);have q:∀j o,j<w.heap.size->u.cell? ⟨j,o,none⟩=wr.cell? ⟨j,o,none⟩:=fun j o hb=>(Pi (w:=W5) (Q j (.inl hb))).trans (Pi (w:=wr) (l0.o j (by omega) (by omega)))
    exact⟨(Pi (w:=W5) (Q c (.inr rfl))).trans C.o.c4,(q _ _ b0).trans ho.2.2.1,(q _ _ b0).trans ho.2.2.2⟩
   have p3:wr.heap.size<=W5.heap.size:=by rw[b2,size_setCell];exact N.size
   clear b2 N A e4 B k8;clear wd;go_upto_region 6 with fail
   refine sP 15 l1.o (fun _ _=>rfl) fun wd N B=>?_
   obtain⟨⟨_,e5⟩,e6⟩:=(C.o.kept N).row.row.at (i:=4) (by omega);have e7:=(C.o.kept N).row.lt;refine af 0 B ?_;refine af 4 B ?_;refine af 8 B ?_;refine ae 12 B ?_;refine ae 13 B ?_;refine ae 14 B ?_;refine ay 15 (fun e8 hK=>?_);go_simp
   refine hK.out _ _ (fun p=>Qi rfl p) ?_;clear hK e8;try simp only[Act.put,upA,upB,upC]
   refine az ?_;have r:Hid (gL t c (wd.setCell ⟨c,4,none⟩ (.int .i64 (g+v*P))) 0 (.slice i b.length b.length) (h+v) (g+v*P)):=(C.o.kept N).OQ _;clear e6 e5 e7 B;go_wp2
   go_roundw
   case rel=>exact⟨n+1,h+v,g+v*P,by omega,by go_num,g8,r⟩
   case measure=>simp[intOf];omega
  ·have p4:¬((n:Int)<(ts.length:Int)):=by omega
   have h0:n=l.length:=by rw[<-L.o,a7];omega
   have a4:Hid (h=gq l/\g=ja (Kk Kq) l):=by have p:=HU.o;rw[h0,PE] at p;exact p
   have T:Hid ((b.map Z).length=b.length):=by show _=_;rw[Qc]
   have o1:=A.o.c1;have g9:=A.o.row.lt;clear a0 h0 HU hi a7 g4;go_wp2_with fail
   have e9:=xP wr i b.length (b.map Z) (by rw[T.o];omega) g3.o.JJ;rw[T.o] at e9;refine e9.mono ?_;clear e9;rintro e w5 ⟨U,l2⟩;have C:=Kz (A.o.kept l2);obtain⟨h2,h3,h4,l3⟩:=HC.o w5 C.o.but;have⟨h5,l4,l5⟩:=bA h2 h3 h4;clear h2 h3 h4 A d1 g3 o1 g9;have l6:=C.o.row.lt;rcases U.cases with⟨rfl,h6⟩|⟨rfl,h7⟩;rotate_left
   ·have l7:=Kz h7;have b3:Hid (iE Kq b l ⟨0,b.map Z,[],h,g⟩):=⟨⟨by rw[T.o];exact d0,OW _⟩,.inl ⟨a5.o,⟨by rw[d5.o],a4.o.1,a4.o.2,.inl ⟨l7.o,rfl,rfl⟩⟩⟩⟩;have o0:=C.o.c0;obtain⟨⟨_,f0⟩,f1⟩:=C.o.row.row.at (i:=0) (by omega);obtain⟨D,F⟩:=ag (w5.setCell ⟨c,0,none⟩ (.int .i64 0));have r:Hid (gL t c D 0 (.slice i b.length b.length) h g):=by rw[F];exact C.o.set0 0
    clear h7 U;go_upto_region 14 with fail
    rw[<-F];clear F f0 f1 o0;have o0:=r.o.c0;have o1:=r.o.c1;have o2:=r.o.c2;have o3:=r.o.c3;have o4:=r.o.c4;obtain⟨V,W,X,h8⟩:=HC.o D r.o.but;have⟨a1,H,b4⟩:=bA V W X;have Y:=r.o.row.lt;clear V W X;obtain⟨⟨⟨_,h9⟩,i0⟩,⟨⟨_,i1⟩,i2⟩,⟨⟨_,i3⟩,i4⟩,⟨⟨_,i5⟩,i6⟩,⟨_,i7⟩,i8⟩:=H.o.row.JK;have i9:=H.o.lt;have j0:¬c=w.heap.size:=by omega
    go_wp2
    have hX:=OY D w.heap.size 0 [.int .i64 0,.slice i b.length b.length,.slice none 0 0,.int .i64 h,.int .i64 g] (H.o.row.there (o:=0) (m:=5) (OU _));refine Zx [.int .i64 0,.slice i b.length b.length,.slice none 0 0,.int .i64 h,.int .i64 g] _ results32 rfl hX underlying31 rfl Tryz.h_ rfl ⟨_,i,none,b.length,0,c, ?_,b3.o, ?_, ?_,by omega, ?_, ?_⟩
    ·show Ending.returned _=Ending.returned _;rw[T.o];try rfl
    ·exact (nT (vs:=[.int .i64 0,.slice i b.length b.length,.slice none 0 0,.int .i64 h,.int .i64 g]) b4.o (.inl (by omega))).mono (by omega) (OU _)
    ·exact .inl rfl
    ·exact OX (Nat.le_of_lt Y) (Pw (size_setCells w.heap.size [.int .i64 0,.slice i b.length b.length,.slice none 0 0,.int .i64 h,.int .i64 g] 0 D).symm)
    ·exact bG (OU _) [.int .i64 0,.slice i b.length b.length,.slice none 0 0,.int .i64 h,.int .i64 g] 0 a1.o
   have j1:=Kz h6;clear h6 U;go_wp2_with fail
   refine (BI (x.o.kept h5.o) b5.o c8).mono ?_;rintro e w6 ⟨U,l8⟩;rw[L.o] at U;have r:=Kz (C.o.kept l8);have Y:=r.o.row.lt;have o0:=r.o.c0;obtain⟨⟨_,f0⟩,f1⟩:=r.o.row.row.at (i:=0) (by omega);clear C l6 h5 l4 l5 l3;rcases U.cases with⟨rfl,j2⟩|⟨rfl,j3⟩
   ·have l9:=Kz j2;have b3:Hid (iE Kq b l ⟨2,b.map Z,[],h,g⟩):=⟨⟨by rw[T.o];exact d0,OW _⟩,.inl ⟨a5.o,⟨by rw[d5.o],a4.o.1,a4.o.2,.inr (.inl ⟨j1.o,l9.o,rfl,rfl⟩)⟩⟩⟩;obtain⟨D,F⟩:=ag (w6.setCell ⟨c,0,none⟩ (.int .i64 2));have I:Hid (gL t c D 2 (.slice i b.length b.length) h g):=by rw[F];exact r.o.set0 2
    clear j2 U;go_upto_region 14 with fail
    rw[<-F];clear F f0 f1 o0 Y r;have o0:=I.o.c0;have o1:=I.o.c1;have o2:=I.o.c2;have o3:=I.o.c3;have o4:=I.o.c4;obtain⟨V,W,X,h8⟩:=HC.o D I.o.but;have⟨a1,H,b4⟩:=bA V W X;have Y:=I.o.row.lt;clear V W X;obtain⟨⟨⟨_,h9⟩,i0⟩,⟨⟨_,i1⟩,i2⟩,⟨⟨_,i3⟩,i4⟩,⟨⟨_,i5⟩,i6⟩,⟨_,i7⟩,i8⟩:=H.o.row.JK;have i9:=H.o.lt;have j0:¬c=w.heap.size:=by omega
    go_wp2
    have hX:=OY D w.heap.size 0 [.int .i64 2,.slice i b.length b.length,.slice none 0 0,.int .i64 h,.int .i64 g] (H.o.row.there (o:=0) (m:=5) (OU _));refine Zx [.int .i64 2,.slice i b.length b.length,.slice none 0 0,.int .i64 h,.int .i64 g] _ results32 rfl hX underlying31 rfl Tryz.h_ rfl ⟨_,i,none,b.length,0,c, ?_,b3.o, ?_, ?_,by omega, ?_, ?_⟩
    ·show Ending.returned _=Ending.returned _;rw[T.o];try rfl
    ·exact (nT (vs:=[.int .i64 2,.slice i b.length b.length,.slice none 0 0,.int .i64 h,.int .i64 g]) b4.o (.inl (by omega))).mono (by omega) (OU _)
    ·exact .inl rfl
    ·exact OX (Nat.le_of_lt Y) (Pw (size_setCells w.heap.size [.int .i64 2,.slice i b.length b.length,.slice none 0 0,.int .i64 h,.int .i64 g] 0 D).symm)
    ·exact bG (OU _) [.int .i64 2,.slice i b.length b.length,.slice none 0 0,.int .i64 h,.int .i64 g] 0 a1.o
   have m0:=Kz j3;obtain⟨D,F⟩:=ag (w6.setCell ⟨c,0,none⟩ (.int .i64 1));have I:Hid (gL t c D 1 (.slice i b.length b.length) h g):=by rw[F];exact r.o.set0 1
   clear j3 U;go_upto_region 9 with fail
   rw[<-F];clear F f0 f1 o0 Y r;have a1:=Kz (HC.o D I.o.but).1;go_wp2_with fail
   refine (IG (x.o.kept a1.o) b5.o b6 k4 c8).mono ?_;rintro e w8 ⟨mo,p5,a8,ol,rfl,hO,hI,hM,j4⟩;have m1:Hid ((fun j5 c5=>c5∈ol j5)=bC (Kk Kq) (Qq l)):=by
    show _=_
    funext j5 c5
    rw[hI.iff,<-L.o,En b5.o (by rw[L.o];exact a5.o.asked)];simp
   have j6:Hid (∀s,ol s≠[]->s∈ts.map (·.r.name)):=fun s hs=>by
    obtain⟨c5,hy⟩:=List.exists_mem_of_ne_nil _ hs;obtain⟨_,O,ht,M,_⟩:=(hI.iff s c5).1 hy;rw[<-M];exact Pv.2 ⟨O,ht,rfl⟩
   have m2:Hid (∀s,ol s≠[]->s.size<=20):=fun s hs=>by
    obtain⟨O,ht,rfl⟩:=Pv.1 (j6.o s hs);obtain⟨p6,hA,_⟩:=(b5.o.good.good O.r (PV (f:=fun O:Zk=>O.r) ht)).act;exact (b6 _ _ hA).2.2.1
   have m3:Hid (xC w8 mo (fun s=>ol s≠[]) ol):=by
    obtain⟨m4,m5,hN,m6,hf,Q⟩:=hO.map;refine⟨⟨m4,m5,by omega,m6,fun s hs=>?_,Q⟩,fun s p=>p⟩;have m7:=hO.row s;obtain⟨a9,c9,m8,m9⟩:=bM m7;exact⟨a9,c9,by rw[hf s hs,m8],m9⟩
   have n0:Hid (∀s,(ol s).length<=1000000):=fun s=>by have:=hI.len s;omega
   clear hO hI;go_wp2_with fail
   refine (D_ w8 mo _ ol (ts.map (·.r.name)) j6.o (by rw[Qc];exact c8) m2.o n0.o m3.o).mono ?_;rintro e w9 ⟨E,k,rfl,j7,n1,j8,k9⟩;have j9:Hid (uP (bC (Kk Kq) (Qq l)) k):=by rw[<-m1.o];exact j8
   have b3:Hid (iE Kq b l ⟨1,b.map Z,k,h,g⟩):=⟨⟨by rw[T.o];exact d0,n1⟩,.inl ⟨a5.o,⟨by rw[d5.o],a4.o.1,a4.o.2,.inr (.inr ⟨j1.o,m0.o,rfl,j9.o⟩)⟩⟩⟩;have R:=Kz (I.o.kept (j4.trans k9));have p7:=j4.size;have p8:=I.o.row.lt;have k3:=R.o.row.lt;obtain⟨⟨_,f0⟩,f1⟩:=R.o.row.row.at (i:=2) (by omega);obtain⟨y,J⟩:=ag (w9.setCell ⟨c,2,none⟩ (.slice E k.length k.length));have o0:y.cell? ⟨c,0,none⟩=some (.int .i64 1):=by rw[J];exact miss R.o.c0 (by decide)
   have o1:y.cell? ⟨c,1,none⟩=some (.slice i b.length b.length):=by rw[J];exact miss R.o.c1 (by decide)
   have o2:y.cell? ⟨c,2,none⟩=some (.slice E k.length k.length):=by rw[J];exact bH R.o.row.row (by omega) _
   have o3:y.cell? ⟨c,3,none⟩=some (.int .i64 h):=by rw[J];exact miss R.o.c3 (by decide)
   have o4:y.cell? ⟨c,4,none⟩=some (.int .i64 g):=by rw[J];exact miss R.o.c4 (by decide)
   obtain⟨V,W,X,h8⟩:=HC.o y (by rw[J];exact R.o.but.set rfl _);have⟨a1,H,b4⟩:=bA V W X;have Y:c<y.heap.size:=by rw[J,size_setCell];exact k3
   have n2:Hid (cZ y c y.heap.size E k):=by
    have p:cZ y w8.heap.size w9.heap.size E k:=by rw[J];exact j7.same (Same.setCell _ (.inl (by show c<w8.heap.size;omega)) _)
    exact p.mono (by omega) (by rw[J,size_setCell];exact OU _)
   clear V W X j7 j8 j9 R;go_upto_region 14 with fail
   rw[<-J];clear J f0 f1 k3;obtain⟨⟨⟨_,h9⟩,i0⟩,⟨⟨_,i1⟩,i2⟩,⟨⟨_,i3⟩,i4⟩,⟨⟨_,i5⟩,i6⟩,⟨_,i7⟩,i8⟩:=H.o.row.JK;have i9:=H.o.lt;have j0:¬c=w.heap.size:=by omega
   go_wp2
   have hX:=OY y w.heap.size 0 [.int .i64 1,.slice i b.length b.length,.slice E k.length k.length,.int .i64 h,.int .i64 g] (H.o.row.there (o:=0) (m:=5) (OU _));refine Zx [.int .i64 1,.slice i b.length b.length,.slice E k.length k.length,.int .i64 h,.int .i64 g] _ results32 rfl hX underlying31 rfl Tryz.h_ rfl ⟨_,i,E,b.length,k.length,c, ?_,b3.o, ?_, ?_,by omega, ?_, ?_⟩
   ·show Ending.returned _=Ending.returned _;rw[T.o];try rfl
   ·exact (nT (vs:=[.int .i64 1,.slice i b.length b.length,.slice E k.length k.length,.int .i64 h,.int .i64 g]) b4.o (.inl (by omega))).mono (by omega) (OU _)
   ·exact (Ck (vs:=[.int .i64 1,.slice i b.length b.length,.slice E k.length k.length,.int .i64 h,.int .i64 g]) n2.o (.inl (by omega))).mono (OU _) (Pw (size_setCells w.heap.size [.int .i64 1,.slice i b.length b.length,.slice E k.length k.length,.int .i64 h,.int .i64 g] 0 y).symm)
   ·exact OX (Nat.le_of_lt Y) (Pw (size_setCells w.heap.size [.int .i64 1,.slice i b.length b.length,.slice E k.length k.length,.int .i64 h,.int .i64 g] 0 y).symm)
   ·exact bG (OU _) [.int .i64 1,.slice i b.length b.length,.slice E k.length k.length,.int .i64 h,.int .i64 g] 0 a1.o
end
theorem Tryz.tL :(prog.info? 33).map (·.size)=some 9:=by kernel_rfl
theorem IV{w w':Qy}{lo hi a b c:Nat}{d f h ca:Qx}{i:List aF}{j:List dh}{k:List Qw}{l:List aF}{g:Nat}{vs:List QA}(m:kG w lo a b c hi d f h ca i j k l)(n:g<lo\/hi<=g)(e:w'=w.setCells g 0 vs):kG w' lo a b c hi d f h ca i j k l:=by
 rw[e];exact m.same (Same.setCells n vs 0 w)
theorem vE.vZ{c:jo}{mx d:Nat}{S:aS}{D:dm}{w:Qy}(h:vE c mx d S D w):KY D.es S.slots:=fun i b=>by
 have f:=h.i.pl.bP.back;rw[h.i.pl.vZ i b];unfold iR;rw[OZ b,OZ (by omega)];exact⟨rfl,rfl,rfl⟩
theorem vE.small{c:jo}{mx b:Nat}{S:aS}{D:dm}{w:Qy}(h:vE c mx b S D w)(a:xg c):(∀s∈S.slots,s.name.size<=1048576)/\S.slots.length<=2060:=by
 constructor
 ·intro s d;obtain⟨r,e⟩:=Ps.1 (h.i.sn s d);obtain⟨A,f⟩:=Ps.1 (h.i.pl.bP.ok.known s.name r e);have:=(a.ok _ _ f).2.2.1;omega
 ·have g:=h.b3;have j:=(h.i.lens a.len).2.2.2.1;have k:=a.wk;omega
theorem sZ(w:Qy)(a:Qx)(cap:Nat)(Kq:List Qz)(rd:Qx)(rc:Nat)(b:List Qw)(k:Int)(hl:Kq.length<=1048576)(hf:∀s∈Kq,s.Fits)(g9:b.length<=maxLen)(h0:b.length<=rc)(h2:∀s∈b,s.size<=maxLen)(hS:bJ w a Kq)(hR:Strs w rd b)(h3:jR w):
  Calls prog 9 #[.agg #[.slice a Kq.length cap],.slice rd b.length rc,.int .i64 k] w fun e w'=>Fx (iA Kq b k) w w' e:=by
 obtain⟨t,H⟩:=ag ((w.alloc (.cells #[.slice a Kq.length cap] 37)).alloc (.cells #[.int .i64 0,.slice none 0 0,.int .i64 0,.int .i64 0,.slice none 0 0,.slice none 0 0,.int .i64 0,.int .i64 0,.slice none 0 0] 33));have L:K_ w t:=by rw[H];exact (ak _ _).alloc _
 have h4:t.heap.size=w.heap.size+1+1:=by rw[H];simp
 have b0:t.cell? ⟨w.heap.size,0,none⟩=some (.slice a Kq.length cap):=by
  rw[H];exact (Es (w:=w) (v:= .slice a Kq.length cap) (t:=37) (ak _ _)).1
 have a5:Hid (aL t (w.heap.size+1) 33 9):=by
  have h:=aL.made (w.alloc (.cells #[.slice a Kq.length cap] 37)) #[.int .i64 0,.slice none 0 0,.int .i64 0,.int .i64 0,.slice none 0 0,.slice none 0 0,.int .i64 0,.int .i64 0,.slice none 0 0] 33;rw[PL] at h;rw[H];exact h
 have z0:w.heap.size<t.heap.size:=by omega
 have e2:Hid (¬(cu Kq 0/\eO b/\1<=k/\k<=60)->∀u,K_ t u->Fx (iA Kq b k) w (u.setCells (w.heap.size+1) 0 [.int .i64 9,.slice none 0 0,.int .i64 0,.int .i64 0,.slice none 0 0,.slice none 0 0,.int .i64 0,.int .i64 0,.slice none 0 0]) (.returned (.agg #[.int .i64 9,.slice none 0 0,.int .i64 0,.int .i64 0,.slice none 0 0,.slice none 0 0,.int .i64 0,.int .i64 0,.slice none 0 0]))):=fun hn u ku=>⟨Gj,none,none,none,none,0,0,0,0,w.heap.size,w.heap.size,w.heap.size,rfl,⟨⟨OW _,OW _,OW _,OW _⟩,.inr ⟨hn,rfl⟩⟩,⟨.inl rfl,.inl rfl,.inl rfl,.inl rfl,OU _,OU _,OU _,by rw[size_setCells];have:=ku.size;omega⟩,bG (g:=w.heap.size+1) (by omega) _ 0 (L.trans ku)⟩
 go_enter func9,ntmps9
 go_upto_region 1 with fail
 rw[<-H];clear H;go_wp2_with fail
 refine (Gf t a cap Kq rd rc b hl hf g9 h0 h2 (hS.kept L) (hR.kept L)).mono ?_;rintro e U ⟨M,h5⟩;have K1:=L.trans M;have d:=a5.o.kept M;have⟨k0,k1⟩:=aD d M;have V:Hid (¬(cu Kq 0/\eO b/\1<=k/\k<=60)->Fx (iA Kq b k) w (U.setCells (w.heap.size+1) 0 [.int .i64 9,.slice none 0 0,.int .i64 0,.int .i64 0,.slice none 0 0,.slice none 0 0,.int .i64 0,.int .i64 0,.slice none 0 0]) (.returned (.agg #[.int .i64 9,.slice none 0 0,.int .i64 0,.int .i64 0,.slice none 0 0,.slice none 0 0,.int .i64 0,.int .i64 0,.slice none 0 0]))/\(U.setCells (w.heap.size+1) 0 [.int .i64 9,.slice none 0 0,.int .i64 0,.int .i64 0,.slice none 0 0,.slice none 0 0,.int .i64 0,.int .i64 0,.slice none 0 0]).rangeAt (w.heap.size+1) 0 [.int .i64 9,.slice none 0 0,.int .i64 0,.int .i64 0,.slice none 0 0,.slice none 0 0,.int .i64 0,.int .i64 0,.slice none 0 0]):=fun hn=>⟨e2.o hn U M,OY U (w.heap.size+1) 0 [.int .i64 9,.slice none 0 0,.int .i64 0,.int .i64 0,.slice none 0 0,.slice none 0 0,.int .i64 0,.int .i64 0,.slice none 0 0] (d.row.there (o:=0) (m:=9) (OU _))⟩
 clear b0 z0 h4 e2 M;rcases h5 with⟨e3,rfl⟩|⟨N,X,wz,bb,mb,ts,h6,dc,rfl,O,x,Y,Z⟩
 ·have P:Hid (¬(cu Kq 0/\eO b/\1<=k/\k<=60)):=fun h=>e3 ⟨h.1,h.2.1⟩
  obtain⟨⟨⟨_,a6⟩,a7⟩,⟨⟨_,a8⟩,a9⟩,⟨⟨_,b2⟩,b3⟩,⟨⟨_,b4⟩,b5⟩,⟨⟨_,b6⟩,b7⟩,⟨⟨_,b8⟩,b9⟩,⟨⟨_,c0⟩,c1⟩,⟨⟨_,c2⟩,c3⟩,⟨_,c4⟩,c5⟩:=d.row.EB;have c6:=d.lt;clear e3 d;go_wp2_with fail
  obtain⟨q,y⟩:=V.o P.o;exact Zx [.int .i64 9,.slice none 0 0,.int .i64 0,.int .i64 0,.slice none 0 0,.slice none 0 0,.int .i64 0,.int .i64 0,.slice none 0 0] _ results9 rfl y underlying33 rfl Tryz.tL rfl q
 by_cases k2:k<1
 ·have P:Hid (¬(cu Kq 0/\eO b/\1<=k/\k<=60)):=fun h=>by omega
  obtain⟨⟨⟨_,a6⟩,a7⟩,⟨⟨_,a8⟩,a9⟩,⟨⟨_,b2⟩,b3⟩,⟨⟨_,b4⟩,b5⟩,⟨⟨_,b6⟩,b7⟩,⟨⟨_,b8⟩,b9⟩,⟨⟨_,c0⟩,c1⟩,⟨⟨_,c2⟩,c3⟩,⟨_,c4⟩,c5⟩:=d.row.EB;have c6:=d.lt;clear d N X O x Y Z;go_wp2_with fail
  obtain⟨q,y⟩:=V.o P.o;exact Zx [.int .i64 9,.slice none 0 0,.int .i64 0,.int .i64 0,.slice none 0 0,.slice none 0 0,.int .i64 0,.int .i64 0,.slice none 0 0] _ results9 rfl y underlying33 rfl Tryz.tL rfl q
 by_cases k3:60<k
 ·have P:Hid (¬(cu Kq 0/\eO b/\1<=k/\k<=60)):=fun h=>by omega
  obtain⟨⟨⟨_,a6⟩,a7⟩,⟨⟨_,a8⟩,a9⟩,⟨⟨_,b2⟩,b3⟩,⟨⟨_,b4⟩,b5⟩,⟨⟨_,b6⟩,b7⟩,⟨⟨_,b8⟩,b9⟩,⟨⟨_,c0⟩,c1⟩,⟨⟨_,c2⟩,c3⟩,⟨_,c4⟩,c5⟩:=d.row.EB;have c6:=d.lt;clear d N X O x Y Z;go_wp2_with fail
  obtain⟨q,y⟩:=V.o P.o;exact Zx [.int .i64 9,.slice none 0 0,.int .i64 0,.int .i64 0,.slice none 0 0,.slice none 0 0,.int .i64 0,.int .i64 0,.slice none 0 0] _ results9 rfl y underlying33 rfl Tryz.tL rfl q
 clear V d;obtain⟨n,h7⟩:∃n:Nat,k=n:=⟨k.toNat,by omega⟩;subst h7;have e4:n<=60:=by omega
 have k6:1<=n:=by omega
 have e5:=Dw (wk:=n) x e4;have c7:=lK N;have c8:=oP c7 b;have e6:Qj ts=bY Kq b:=KZ x.asc c8.asc Z;have⟨Q,e7,h8,h9,c9⟩:=dX N X e6 Y c8;have a0:=Kz (L.trans O);have⟨e8,i0,i1⟩:=bA O x.asc x.tbs;clear N X e6 x Y c8 Z O;go_wp2_with fail
 refine e5.mono ?_;rintro e w2 ⟨cb,qb,fF,fa,fc,rfl,q,hM⟩;obtain⟨c,p⟩:∃c:jo,c= ⟨Kq,wz,n,cb,qb,bb,a,cap,rd,b.length,rc,mb⟩:=⟨_,rfl⟩;obtain⟨d0,hD⟩:∃d0:dm,d0= {newD ts h6 dc (fun _=>.slice none 0 0) (fun _=>[]) with fF:=fF,fn:=n,fa:=fa,fc:=fc}:=⟨_,rfl⟩;have hK:xg c:=by
  rw[p];exact⟨c7,hf,nS Q.o,yV Q.o,hS.kept a0.o,h3.kept a0.o,e4⟩
 have i2:iT c (eU (bY Kq b) n)<=1380:=by
  have h1:=AV (Kq.map (·.name)) (Qq (bY Kq b));have i3:=nS Q.o;rw[Qc] at h1;rw[p];show eT (Kq.map (·.name)) (Qq (bY Kq b))<=1380;omega
 have hI:ek c 0 0 (eU (bY Kq b) n) (fun _=>False) d0 w2:=by
  rw[p,hD];exact⟨hM,h9.o,h8.o,eH.start (lY c9.o).bP q,fun k7 ht=>(by have h:=tT (loc:=fun _=>0) i0.o ht i1.o;exact h),fun s hs=>by cases hs⟩
 have e9:lg (eU (bY Kq b) n):=fun k e h=>by
  have h':(List.replicate n (none:Option aX))[k]? =some (some e):=h;rw[List.getElem?_replicate] at h'
  split at h' <;> simp at h'
 have d1:=Cv hI hK e9 (fun _=>rfl) (by omega) (by omega) rfl;have d2:c.cb=cb:=by rw[p]
 have f0:c.bb=bb:=by rw[p]
 have d3:c.Kq=Kq:=by rw[p]
 have i4:c.wk=n:=by rw[p]
 rw[d2,d3] at d1;have⟨i5,i6,d4,f1,k8⟩:=dX d1 hK p d2 f0;have f2:=Kz d3;clear e5 q hM hK i2 hI e9 d1 d2 f0 d3 i4 p hD;go_wp2_with fail
 refine i5.o.mono ?_;rintro e w3 ⟨u,A,rfl,d5,mx,mq,z,R⟩;obtain⟨f3,jj,f4⟩:=d5.live c7 (lY (wk:=n) c9.o);have f5:iN Kq b A.T:=Az Q.o e7.o f3.good c9.o.wf f4;have d6:=R.small i6.o;have a1:=R.i.mem;have f6:K_ wz w3:=by
  have h:=a1.bm.kw;rw[d4.o] at h;exact h
 have d7:=zh a1 R.vZ (by omega) d6.1;rw[f1.o] at d7;have⟨f7,I,i7,i8,d8⟩:=dX d7 R d5 f5 d6;have⟨f8,a2⟩:=aD a1 f6;obtain⟨j,d9⟩:=ag A.slots;rw[<-d9] at f7;have f9:=Kz d9;clear f3 f4 f5 d6 a1 f6 d7 R d5 d9;go_wp2_with fail
 refine f7.o.mono ?_;rintro e w4 ⟨B,rfl,g0,k4⟩;have e0:=(f8.o.kept k4).bm;have g1:=z_ b A.T (G:=Hz w4 c.cb c.qb (z.rows A.slots.length) (Nw z.ts)) (Kq:=Kq) (wz:=wz) (a:=a) (cap:=cap) (rd:=rd) (rc:=rc) (mb:=mb) (bb:=bb) (mx:=mx) (ts:=z.ts) (d:=z.d) (dc:=z.dc) (f:=z.f) (ws:=z.ws) (w:=w4) (by rw[d4.o] at e0;rw[d4.o];exact e0) (by have h:=I.o.i.bs;rw[f2.o] at h;exact h) (by have:=I.o.b1;omega) i8.o I.o.i.run (hR.kept ((a0.o.trans a2.o).trans k4));have⟨i9,j0,a3⟩:=bA g1 g0 k4;clear g1 g0 k4 e0;go_wp2_with fail
 refine i9.o.mono ?_;rintro e w5 ⟨o,C,D,J,K,mid,rfl,hA,g2,g3,q1,q2,k5⟩;have e1:=zJ (t:=u) (W:=Kk Kq) ((f8.o.kept a3.o).kept k5) (bk:=A.back) (by rw[<-f2.o];exact I.o.i.pl.vZ) I.o.i.pl.bP.back I.o.i.pl.bP.prev (by have:=d8.o;omega) d8.o.1;rw[f1.o] at e1;have⟨j1,HA,j2,j3,a4⟩:=dX e1 hA g2 g3 k5;clear e1 hA g2 g3 k5;go_wp2_with fail
 refine j1.o.mono ?_;rintro e S ⟨E,l,pp,rfl,g4,g5,g6,g7,F⟩;have d:=a5.o.kept (e8.o.trans (a2.o.trans (a3.o.trans (a4.o.trans F))));obtain⟨⟨⟨_,a6⟩,a7⟩,⟨⟨_,a8⟩,a9⟩,⟨⟨_,b2⟩,b3⟩,⟨⟨_,b4⟩,b5⟩,⟨⟨_,b6⟩,b7⟩,⟨⟨_,b8⟩,b9⟩,⟨⟨_,c0⟩,c1⟩,⟨⟨_,c2⟩,c3⟩,⟨_,c4⟩,c5⟩:=d.row.EB;have c6:=d.lt;have j4:=Kz d;have j5:Hid (iA Kq b (n:Int) ⟨0,j,u,o,l⟩):=by
  have h1:=d8.o.2;rw[<-f9.o] at h1 g6;refine⟨⟨by show j.length<=3000;omega,HA.o.1.1,HA.o.1.2,by show l.length<=3000;omega⟩,.inl ⟨⟨Q.o,e7.o,by omega,by omega⟩,rfl,A.T, ?_,HA.o⟩⟩;rw[Int.toNat_natCast];exact⟨A,pp,i7.o,f9.o.symm,rfl,g4,g5⟩
 have j6:Hid (kG S w3.heap.size w4.heap.size mid w5.heap.size S.heap.size B C D E j o.res o.chain l):=by
  have z4:=a3.o.size;have z5:=a4.o.size;have z6:=F.size;have j7:=j0.o;exact⟨(j7.same (a4.o.same _ _)).same (F.same _ _),j2.o.same (F.same _ _),j3.o.same (F.same _ _),g7,z4,q1,q2,z6⟩
 have j8:=Kz F;clear d g4 g5 g6 g7 F;go_wp2_with fail
 have y:=OY S (w.heap.size+1) 0 [.int .i64 0,.slice B j.length j.length,.int .i64 u,.int .i64 o.code,.slice C o.res.length J,.slice D o.chain.length K,.int .i64 o.aY,.int .i64 o.cost,.slice E l.length l.length] (j4.o.row.there (o:=0) (m:=9) (OU _));have j9:K_ w S:=a0.o.trans (a2.o.trans (a3.o.trans (a4.o.trans j8.o)));have k9:w.heap.size+1+1<=w3.heap.size:=by
  have h1:=a5.o.lt;have i3:=e8.o.size;have l0:=a2.o.size;omega
 have g8:=size_setCells (w.heap.size+1) [.int .i64 0,.slice B j.length j.length,.int .i64 u,.int .i64 o.code,.slice C o.res.length J,.slice D o.chain.length K,.int .i64 o.aY,.int .i64 o.cost,.slice E l.length l.length] 0 S;have r:=IV (vs:=[.int .i64 0,.slice B j.length j.length,.int .i64 u,.int .i64 o.code,.slice C o.res.length J,.slice D o.chain.length K,.int .i64 o.aY,.int .i64 o.cost,.slice E l.length l.length]) j6.o (g:=w.heap.size+1) (.inl (by omega)) rfl;refine Zx [.int .i64 0,.slice B j.length j.length,.int .i64 u,.int .i64 o.code,.slice C o.res.length J,.slice D o.chain.length K,.int .i64 o.aY,.int .i64 o.cost,.slice E l.length l.length] _ results9 rfl y underlying33 rfl Tryz.tL rfl ⟨⟨0,j,u,o,l⟩,B,C,D,E,j.length,J,K,l.length,w4.heap.size,mid,w5.heap.size,rfl,j5.o, ?_,bG (g:=w.heap.size+1) (by omega) [.int .i64 0,.slice B j.length j.length,.int .i64 u,.int .i64 o.code,.slice C o.res.length J,.slice D o.chain.length K,.int .i64 o.aY,.int .i64 o.cost,.slice E l.length l.length] 0 j9⟩;refine⟨r.sl.mono (by omega) (OU _),r.rs,r.ch,r.cn.mono (OU _) (Pw g8.symm), ?_,r.l2,r.l3, ?_⟩
 ·have:=r.l1;omega
 ·exact OX r.l4 (Pw g8.symm)
