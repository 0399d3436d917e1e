import Derived.Test.YtgnkgfjmbmcfcaaGreatDoorKWCheck5
import Derived.Test.YtgnkgfjmbmcfcaaGreatDoorKXCirc
set_option maxRecDepth 100000
set_option maxHeartbeats 25600000
namespace Go.Proofs.YtgnkgfjmbmcfcaaGreatDoor
open Go.RowKit Go.Proofs.Tryz
theorem Tryz.h_ :(prog.info? 31).map (·.size)=some 5:=by kernel_rfl
theorem But.after{S S':Nat->Prop}{w w' d:Qy}(h:But S w w')(k:But S' w' d)(f:∀b,b<w.heap.size->¬S b->¬S' b):But S w d:=
 ⟨k.os.trans h.os,k.tape.trans h.tape,k.output.trans h.output,OX h.size k.size,fun b c e=>(k.block b (OV c h.size) (f b c e)).trans (h.block b c e)⟩
theorem miss{w:Qy}{b o a:Nat}{x v:QA}(h:w.cell? ⟨b,o,none⟩=some x)(d:o≠a):(w.setCell ⟨b,a,none⟩ v).cell? ⟨b,o,none⟩=some x:=by rw[Xk (by omega)];exact h
structure gL (W2:Qy) (ob:Nat) (w:Qy) (code:Int) (rv:QA) (aY cost:Int):Prop where
 but:But (fun b=>b=ob) W2 w
 row:aL w ob 31 5
 c0:w.cell? ⟨ob,0,none⟩=some (.int .i64 code)
 c1:w.cell? ⟨ob,1,none⟩=some rv
 c2:w.cell? ⟨ob,2,none⟩=some (.slice none 0 0)
 c3:w.cell? ⟨ob,3,none⟩=some (.int .i64 aY)
 c4:w.cell? ⟨ob,4,none⟩=some (.int .i64 cost)
section
variable {W2 w w' : Qy} {ob : Nat} {code aY cost : Int} {rv : QA}
theorem gL.kept(h:gL W2 ob w code rv aY cost)(k:K_ w w'):gL W2 ob w' code rv aY cost:=
 ⟨h.but.trans (But.aj k),h.row.kept k,(k.cell h.row.lt).trans h.c0,(k.cell h.row.lt).trans h.c1,(k.cell h.row.lt).trans h.c2,(k.cell h.row.lt).trans h.c3,(k.cell h.row.lt).trans h.c4⟩
theorem gL.alike(h:gL W2 ob w code rv aY cost){S:Nat->Prop}(k:But S w w')(c:∀b,S b->W2.heap.size<=b)(d:ob<W2.heap.size):gL W2 ob w' code rv aY cost:=
 have a:¬S ob:=fun e=>by have:=c _ e;omega
 ⟨h.but.after k (fun b f _ e=>by have:=c _ e;omega),k.row h.row a,(k.cell h.row.lt a).trans h.c0,(k.cell h.row.lt a).trans h.c1,(k.cell h.row.lt a).trans h.c2,(k.cell h.row.lt a).trans h.c3,(k.cell h.row.lt a).trans h.c4⟩
theorem gL.set0(h:gL W2 ob w code rv aY cost)(x:Int):gL W2 ob (w.setCell ⟨ob,0,none⟩ (.int .i64 x)) x rv aY cost:=
 ⟨h.but.set rfl _,h.row.set _,bH h.row.row (by omega) _,miss h.c1 (by decide),miss h.c2 (by decide),miss h.c3 (by decide),miss h.c4 (by decide)⟩
theorem gL.set1(h:gL W2 ob w code rv aY cost)(x:QA):gL W2 ob (w.setCell ⟨ob,1,none⟩ x) code x aY cost:=
 ⟨h.but.set rfl _,h.row.set _,miss h.c0 (by decide),bH h.row.row (by omega) _,miss h.c2 (by decide),miss h.c3 (by decide),miss h.c4 (by decide)⟩
theorem gL.OD(h:gL W2 ob w code rv aY cost)(x:Int):gL W2 ob (w.setCell ⟨ob,3,none⟩ (.int .i64 x)) code rv x cost:=
 ⟨h.but.set rfl _,h.row.set _,miss h.c0 (by decide),miss h.c1 (by decide),miss h.c2 (by decide),bH h.row.row (by omega) _,miss h.c4 (by decide)⟩
theorem gL.OQ(h:gL W2 ob w code rv aY cost)(x:Int):gL W2 ob (w.setCell ⟨ob,4,none⟩ (.int .i64 x)) code rv aY x:=
 ⟨h.but.set rfl _,h.row.set _,miss h.c0 (by decide),miss h.c1 (by decide),miss h.c2 (by decide),miss h.c3 (by decide),bH h.row.row (by omega) _⟩
theorem gL.no{a:Qx}{b rc:Nat}(h:gL W2 ob w code (.slice a b rc) aY cost):je w ob:=IC h.row fun o c s e=>by
 match o,c,e with
 | 0,_,e=>have:=h.c0;rw[e] at this;cases this
 | 1,_,e=>have:=h.c1;rw[e] at this;cases this
 | 2,_,e=>have:=h.c2;rw[e] at this;cases this
 | 3,_,e=>have:=h.c3;rw[e] at this;cases this
 | 4,_,e=>have:=h.c4;rw[e] at this;cases this
end
def oh(l:List dh)(code:Int):Prop:=(code=0/\¬∃r∈l,r.over=false)\/(code=2/\∃r∈l,r.over=false)
theorem oh.yes{l:List dh}{e:Int}(h:oh l e)(r:dh)(f:r.over=true):oh (l++ [r]) e:=by
 rcases h with⟨a,b⟩|⟨a,x,c,b⟩
 ·refine .inl ⟨a,fun ⟨x,c,d⟩=>?_⟩;rcases Pe.1 c with h | h
  ·exact b ⟨x,h,d⟩
  ·rw[Pd] at h;rw[h,f] at d;cases d
 ·exact .inr ⟨a,x,Pe.2 (.inl c),b⟩
theorem oh.no(l:List dh)(r:dh)(a:r.over=false):oh (l++ [r]) 2:= .inr ⟨rfl,r,Pe.2 (.inr (Pd.2 rfl)),a⟩
theorem FU(w:Qy)(a:Qx)(cap:Nat)(Kq:List Qz)(X:Qx)(rc:Nat)(l:List Qw)(d:Qx)(dc:Nat)(n:List Q_)(d6:Kq.length<=1048576)(hv:iN Kq l n)
  (hN:bJ w a Kq) (hS:gD w d n) (hR:Strs w X l):
  Calls prog 25 #[.agg #[.slice a Kq.length cap],.agg #[.slice X l.length rc,.slice d n.length dc]] w fun e w'=>MH Kq l n w w' e:=by
 have⟨d7,d8⟩:=aD hv hv.good;have g3:=lK hv.1;have j9:n.length<=60:=OX hv.good.len (nS hv.1);have x0:l.length<=10:=hv.2.1.2.1;have q7:Hid (∀a8∈l,a8.size<=20):=fun a8 hn=>by
  obtain⟨i,hi,rfl⟩:=Ph hn;have j:=(hv.2.1.2.2 i hi).1.2.1;simpa[List.getD,hi] using j
 clear hv;obtain⟨K,a4⟩:=ag (((w.alloc (.cells #[.slice a Kq.length cap] 37)).alloc (.cells #[.slice X l.length rc,.slice d n.length dc] 53)).alloc (.cells #[.int .i64 0,.slice none 0 0,.slice none 0 0,.int .i64 0,.int .i64 0] 31));have kB:K_ w K:=by rw[a4];exact ((ak _ _).alloc _).alloc _
 have q8:K.heap.size=w.heap.size+3:=by rw[a4];simp
 have b0:K.cell? ⟨w.heap.size,0,none⟩=some (.slice a Kq.length cap):=by
  rw[a4];exact (Es (w:=w) (v:= .slice a Kq.length cap) (t:=37) ((ak _ _).alloc _)).1
 have c0:K.cell? ⟨w.heap.size+1,0,none⟩=some (.slice X l.length rc)/\K.cell? ⟨w.heap.size+1,1,none⟩=some (.slice d n.length dc):=by
  have j:=Ol (w:=w.alloc (.cells #[.slice a Kq.length cap] 37)) (v0:= .slice X l.length rc) (v1:= .slice d n.length dc) (t:=53) (w1:=K) (by rw[a4];exact ak _ _);rw[PL] at j;exact j
 have b1:Hid (aL K (w.heap.size+1+1) 31 5):=by
  have j:=aL.made ((w.alloc (.cells #[.slice a Kq.length cap] 37)).alloc (.cells #[.slice X l.length rc,.slice d n.length dc] 53)) #[.int .i64 0,.slice none 0 0,.slice none 0 0,.int .i64 0,.int .i64 0] 31;rw[PL,PL] at j;rw[a4];exact j
 have k0:Hid (je K (w.heap.size+1+1)):=by
  have j:=II (w:=(w.alloc (.cells #[.slice a Kq.length cap] 37)).alloc (.cells #[.slice X l.length rc,.slice d n.length dc] 53)) (k:=0) (m:=0) (n:=0) (a:=none) (f:=none) (c:=0) (e0:=0) (rl:=0) (cl:=0) (t:=31);rw[PL,PL] at j;rw[a4];exact j
 obtain⟨h,c1⟩:=ag K.heap.size;obtain⟨WO,b2⟩:=ag (K.alloc (.cells #[.int .i64 0,.slice none 0 0,.slice none 0 0,.int .i64 0,.int .i64 0] 31));have kO:K_ K WO:=by rw[b2];exact ak _ _
 have zO:h<WO.heap.size:=by rw[b2,c1];simp
 have k1:Hid (gL WO h WO 0 (.slice none 0 0) 0 0):=by
  obtain⟨q0,q1,q2,q3,q4⟩:=kV (w:=K) (w1:=WO) (v0:= .int .i64 0) (v1:= .slice none 0 0) (v2:= .slice none 0 0) (v3:= .int .i64 0) (v4:= .int .i64 0) (t:=31) (by rw[b2];exact K_.refl _);rw[<-c1] at q0 q1 q2 q3 q4;exact⟨But.aj (K_.refl _),by rw[b2,c1];exact aL.made K _ _,q0,q1,q2,q3,q4⟩
 have x1:w.heap.size+1+1<h:=by omega
 have k4:=Kz kB;have zB:w.heap.size+1+1<K.heap.size:=by omega
 clear q8;go_enter func25,ntmps25
 go_upto_region 1 with fail
 rw[<-a4];clear a4;go_upto_region 2 with fail
 rw[<-b2,<-c1];have T:=(kO.cell (o:=0) (b:=w.heap.size) (by omega)).trans b0;have U:=(kO.cell (o:=0) (b:=w.heap.size+1) (by omega)).trans c0.1;have V:=(kO.cell (o:=1) (b:=w.heap.size+1) (by omega)).trans c0.2;clear b2 c1;go_wp2_with fail
 refine (pg WO a Kq.length cap X l.length rc d n.length dc).mono ?_;rintro e C ⟨kb,rfl,d9,k2⟩;have e1:=Kz d9;have g4:=d9.row.lt;have g5:Hid (gL C h C 0 (.slice none 0 0) 0 0):=by
  have j:=k1.o.kept k2;exact⟨But.aj (K_.refl _),j.row,j.c0,j.c1,j.c2,j.c3,j.c4⟩
 have a6:K_ K C:=kO.trans k2;have q9:h<C.heap.size:=OV zO k2.size;have g7:¬kb=h:=aA d9.row.type g5.o.row.type (by decide);have z2:w.heap.size+1+1<C.heap.size:=by omega
 have HC:Hid (∀u,But (fun b=>b=h) C u->u.cell? ⟨w.heap.size,0,none⟩=some (.slice a Kq.length cap)/\u.cell? ⟨w.heap.size+1,0,none⟩=some (.slice X l.length rc)/\u.cell? ⟨w.heap.size+1,1,none⟩=some (.slice d n.length dc)/\jE u kb a Kq.length cap d n.length dc/\K_ w u/\aL u (w.heap.size+1+1) 31 5/\je u (w.heap.size+1+1)/\C.heap.size<=u.heap.size):=fun u j=>by
  have r0:w.heap.size+1+1<K.heap.size:=b1.o.lt;refine⟨?_, ?_, ?_,⟨j.row e1.o.row g7,(j.cell g4 g7).trans e1.o.web,(j.cell g4 g7).trans e1.o.runs⟩,j.kept (k4.o.trans a6) (fun b e=>by rw[e];omega),j.row (b1.o.kept a6) (fun (e:w.heap.size+1+1=h)=>by omega),fun o s e=>(k0.o.kept r0 a6) o s ((j.cell z2 (fun (e:w.heap.size+1+1=h)=>by omega)).symm.trans e),j.size⟩
  ·exact (j.cell (by omega) (fun (e:w.heap.size=h)=>by omega)).trans ((a6.cell (by omega)).trans b0)
  ·exact (j.cell (by omega) (fun (e:w.heap.size+1=h)=>by omega)).trans ((a6.cell (by omega)).trans c0.1)
  ·exact (j.cell (by omega) (fun (e:w.heap.size+1=h)=>by omega)).trans ((a6.cell (by omega)).trans c0.2)
 obtain⟨R,k6⟩:=ag (vT (Kk Kq) (Qq n));have e3:=Kz k6;clear k6 T U V b0 c0 kB kO k2 a6 b1 k0 k1 e1 d9 g4 k4 zO;go_wp2
 go_loopw [7] (fun x7 wr=>∃(k:Nat) (q:Qx) (r:Nat) (a2:Int),k<=l.length/\x7= .int .i64 (k:Int)/\Hid (oh ((l.take k).map R) a2)/\Hid (gL C h wr a2 (.slice q k r) 0 0)/\Hid (wr.ownsRow C.heap.size 116 4 (.slice q k r) k (bQ ((l.take k).map R)))) (fun x7 _=>l.length-(intOf x7).toNat)
 case atStart=>exact⟨0,none,0,0,OW _,rfl,Kz (.inl ⟨rfl,fun ⟨_,j,_⟩=>by cases j⟩),g5,Kz (PU _ _ _ _)⟩
 case round=>
  clear g5;obtain⟨k,q,r,a2,hk,rfl,g8,D,Y⟩:=hrel;obtain⟨T,U,V,e4,Kr,e6,e7,g9⟩:=HC.o wr D.o.but;have y0:w.heap.size<wr.heap.size:=by omega
  have y1:w.heap.size+1<wr.heap.size:=by omega
  have⟨k8,O⟩:=aD e4 Kr;clear e4 e6 e7;by_cases c2:k<l.length
  ·have x2:(k:Int)<(l.length:Int):=by omega
   obtain⟨sb,so,e8,k9,h0⟩:=hR k c2;subst e8;obtain⟨N,h6⟩:=ag (l.getD k ByteArray.empty);rw[<-h6] at h0;have l0:=(O.o.cell k9).trans h0;have l1:sb<wr.heap.size:=OV k9 O.o.size;clear h0;have h7:l[k]=N:=by rw[h6];simp[List.getD,c2]
   have l2:N∈l:=by rw[<-h7];exact Pf c2
   have l3:=Kz h7;have x3:=q7.o N l2;clear h6 h7 l2;go_wp2_with fail
   refine (uQ wr kb a cap Kq d dc n N d6 (by omega) (by omega) k8.o (hN.kept O.o) (hS.kept O.o)).mono ?_;rintro e w3 ⟨⟨fl,tx,ok,rfl,l4,c6⟩,k3⟩;have b1:Hid (R N= ⟨N,ok,fl,tx⟩):=by
    show R N=_;rw[e3.o];unfold vT;rw[l4];cases ok
    ·obtain⟨h1,h2⟩:=c6 rfl;rw[h1,h2]
     rfl
    ·rfl
   have h8:Hid ((l.take (k+1)).map R= (l.take k).map R++ [⟨N,ok,fl,tx⟩]):=by
    show _=_;rw[Pb c2,Qm,l3.o,<-b1.o]
    rfl
   obtain⟨F,c7⟩:=ag (w3.alloc (.cells #[.bool fl,.string tx] 112));have l5:K_ w3 F:=by rw[c7];exact ak _ _
   obtain⟨pb,f1⟩:=ag w3.heap.size;have f2:=Ol (w:=w3) (v0:= .bool fl) (v1:= .string tx) (t:=112) (w1:=F) (by rw[c7];exact K_.refl _);rw[<-f1] at f2;have K4:=k3.trans l5;have l6:∀b,(Value.slice q k r).ownBlock=some b->b≠pb:=fun b e=>by have h1:=(Y.o.lt b e).2;have h2:=k3.size;omega
   have l7:pb<F.heap.size:=by rw[c7,f1];simp
   have h9:=Kz (D.o.kept K4);have l8:=Kz (ai Y.o K4);have r1:sb<F.heap.size:=OV l1 K4.size;have x4:C.heap.size<=F.heap.size:=OX g9 K4.size;have r2:h<F.heap.size:=by omega
   have r3:w.heap.size+1<F.heap.size:=by omega
   have a3:Hid (∀u:Qy,(∀b,b<F.heap.size->¬C.heap.size<=b\/b=pb->u.heap[b]? =F.heap[b]?)->u.cell? ⟨h,1,none⟩=some (.slice q k r)/\u.cell? ⟨w.heap.size+1,0,none⟩=some (.slice (some ⟨sb,so,none⟩) l.length rc)/\u.cell? ⟨sb,so+k,none⟩=some (.string N)/\u.cell? ⟨pb,0,none⟩=some (.bool fl)/\u.cell? ⟨pb,1,none⟩=some (.string tx)):=fun u L=>by
    have r4:F.cell? ⟨w.heap.size+1,0,none⟩=some (.slice (some ⟨sb,so,none⟩) l.length rc):=(K4.cell y1).trans U;exact⟨(Pi (w:=F) (L h r2 (.inl (by omega)))).trans h9.o.c1,(Pi (w:=F) (L _ r3 (.inl (by show¬_<=w.heap.size+1;omega)))).trans r4,(Pi (w:=F) (L sb r1 (.inl (by omega)))).trans ((K4.cell l1).trans l0),(Pi (w:=F) (L pb l7 (.inr rfl))).trans f2.1,(Pi (w:=F) (L pb l7 (.inr rfl))).trans f2.2⟩
   obtain⟨ic,r5,r6,r7,r8⟩:=aN Tryz.rP;have x5:=O.o.trans K4;go_upto_region 7 with fail
   rw[<-c7,<-f1];clear c7 f1 f2 l5 k3 l4 c6 T U V l0 b1 l3;refine sP 16 a3.o (fun _ _ _=>rfl) fun P Q B=>?_
   refine af 0 B ?_;refine af 4 B ?_;refine af 8 B ?_;refine ae 12 B ?_;refine ay 13 (fun Z J=>?_);go_simp
   have K5:K_ P (P.alloc (.cells #[.string N,.bool ok,.bool fl,.string tx] 116)):=ak _ _;have f3:=X_ P #[.string N,.bool ok,.bool fl,.string tx] 116;have W:=Q.trans K5;have a7:∀b,b<F.heap.size->¬C.heap.size<=b\/b=pb->(P.alloc (.cells #[.string N,.bool ok,.bool fl,.string tx] 116)).heap[b]? =F.heap[b]? :=fun b hb _=>W.block b hb
   refine J.out _ _ (fun _=>a3.o _ a7) ?_;clear J Z B;obtain⟨eb,l9⟩:=ag P.heap.size;rw[<-l9] at f3⊢;generalize r9:P.alloc (.cells #[.string N,.bool ok,.bool fl,.string tx] 116)=w6 at f3 W a7⊢;clear r9 K5 l9;have i0:=Kz (ai l8.o W);have s0:=W.size;try simp only[Act.put,upA,upB,upC]
   refine ay 14 (fun Z J=>?_);refine step_append_lies _ rfl (.tmp 33) (.tmp 45) 29 rfl C.heap.size 116 ic _ 4 40 underlying29 r5 r6 r7 r8 rfl (by decide) (.slice q k r) k (bQ ((l.take k).map R)) (by simp[Act.eval]) i0.o ⟨eb,0,none⟩ 1 1 [.string N,.bool ok,.bool fl,.string tx] (by simp[Act.eval]) rfl (fun s1 u hu=>by rw[PQ];exact f3 s1 u hu) (fun u hu=>by simp only[PS,PT,or_false] at hu;rcases hu with rfl | rfl | rfl | rfl <;> rfl) (by omega) (by unfold maxLen;omega) (by omega) (by omega) _ rfl ?_;intro g6 b3 w8 i1 m0 s2 x6;have i2:∀b,(Value.slice q k r).ownBlock=some b->C.heap.size<=b:=fun b e=>(i0.o.lt b e).1
   have f4:But (fun b=>(Value.slice q k r).ownBlock=some b) w6 w8:=But.aQ m0 (fun b e=>e);have i3:∀b,b<F.heap.size->¬C.heap.size<=b\/b=pb->w8.heap[b]? =F.heap[b]? :=fun b hb hn=>(f4.block b (by omega) (fun e=>by rcases hn with j | j;exact j (i2 b e);exact l6 b e j)).trans (a7 b hb hn)
   have f5:gL C h w8 a2 (.slice q k r) 0 0:=(h9.o.kept W).alike f4 i2 q9;have x8:=f4.size;obtain⟨⟨_,c8⟩,d0⟩:=f5.row.row.at (i:=1) (by omega);have s3:=f5.row.lt;obtain⟨W8,a5⟩:=ag (w8.setCell ⟨h,1,none⟩ (.slice (some ⟨g6,0,none⟩) (k+1) b3));have d1:Hid (gL C h W8 a2 (.slice (some ⟨g6,0,none⟩) (k+1) b3) 0 0):=by rw[a5];exact f5.set1 _
   have f6:Hid (W8.ownsRow C.heap.size 116 4 (.slice (some ⟨g6,0,none⟩) (k+1) b3) (k+1) (bQ ((l.take (k+1)).map R))):=by
    rw[a5,h8.o,pq];exact (But.set (S:=fun b=>b=h) (But.aj (K_.refl w8)) (p:=⟨h,1,none⟩) rfl _).owns i1 (fun b e e2=>by have:=(i1.lt b e).1;omega)
   refine J.out _ _ (fun _=>a3.o _ i3) ?_;clear J Z i1 m0 s2 f5;try simp only[Act.put,upA,upB,upC]
   have B:=a3.o _ i3;refine ae 15 B ?_;refine ay 16 (fun Z J=>?_);go_simp
   rw[<-a5];refine J.out _ _ (fun j=>Qi rfl j) ?_;clear J Z B;try simp only[Act.put,upA,upB,upC]
   refine az ?_;clear a5 d0 c8 i3 l6 i2 f4 f3 a7 i0 h9 l8 a3 D Y Q W s3;cases ok
   ·have i4:Hid (oh ((l.take (k+1)).map R) 2):=by rw[h8.o];exact oh.no _ _ rfl
    have o0:=d1.o.c0;obtain⟨⟨_,f0⟩,f7⟩:=d1.o.row.row.at (i:=0) (by omega);have HF:=Kz (d1.o.set0 2);have HG:Hid ((W8.setCell ⟨h,0,none⟩ (.int .i64 2)).ownsRow C.heap.size 116 4 (.slice (some ⟨g6,0,none⟩) (k+1) b3) (k+1) (bQ ((l.take (k+1)).map R))):=(But.set (S:=fun b=>b=h) (But.aj (K_.refl W8)) (p:=⟨h,0,none⟩) rfl _).owns f6.o (fun b e e2=>by have:=(f6.o.lt b e).1;omega);clear d1 f6;go_wp2
    go_roundw
    case rel=>exact⟨k+1,some ⟨g6,0,none⟩,b3,2,by omega,by go_num,i4,HF,HG⟩
    case measure=>simp[intOf];omega
   ·have i4:Hid (oh ((l.take (k+1)).map R) a2):=by rw[h8.o];exact g8.o.yes _ rfl
    go_wp2
    go_roundw
    case rel=>exact⟨k+1,some ⟨g6,0,none⟩,b3,a2,by omega,by go_num,i4,d1,f6⟩
    case measure=>simp[intOf];omega
  ·have i5:¬((k:Int)<(l.length:Int)):=by omega
   have i6:k=l.length:=by omega
   have m1:l.take k=l:=by rw[i6];exact PE
   rw[m1] at g8 Y;have f8:=Kz i6;clear c2 i6 m1 hk;have m2:Hid (0=gq (n.take 0)/\0=ja (Kk Kq) (n.take 0)):=⟨rfl,rfl⟩;go_wp2
   go_loopw [10] (fun i7 wr=>∃(i:Nat) (z y:Int),i<=n.length/\i7= .int .i64 (i:Int)/\Hid (z=gq (n.take i)/\y=ja (Kk Kq) (n.take i))/\Hid (gL C h wr a2 (.slice q k r) z y)/\Hid (wr.ownsRow C.heap.size 116 4 (.slice q k r) k (bQ (l.map R)))) (fun i7 _=>n.length-(intOf i7).toNat)
   case atStart=>exact⟨0,0,0,OW _,rfl,m2,D,Y⟩
   case round=>
    clear m2 D Y T U V k8 O Kr g9 y0 y1;obtain⟨i,z,y,hi,rfl,HU,D,Y⟩:=hrel;obtain⟨T,U,V,e4,Kr,e6,e7,g9⟩:=HC.o wr D.o.but;have y0:w.heap.size<wr.heap.size:=by omega
    have y1:w.heap.size+1<wr.heap.size:=by omega
    have⟨b4,m3,O⟩:=bA e6 e7 Kr;clear e4 e6 e7 Kr;have s4:=Hl g3 d8.o j9 i;rw[<-HU.o.1,<-HU.o.2] at s4;by_cases b5:i<n.length
    ·have x9:(i:Int)<(n.length:Int):=by omega
     obtain⟨rb,ro,xa,xc,e8,y2,f9,_,_⟩:=(hS.kept O.o) i b5;obtain⟨y3,y4,y5,y6,e2,y7,_⟩:=hS i b5;rw[e8] at e2;cases e2;subst e8;obtain⟨x,hx⟩:=ag (n.getD i Q_.zero);rw[<-hx] at f9;have i8:n[i]=x:=by rw[hx];simp[List.getD,b5]
     have m4:x∈n:=by rw[<-i8];exact Pf b5
     have t0:=f9 0 _ rfl;have t5:=f9 5 _ rfl;rw[PR] at t0;have g0:=d8.o.good x m4;obtain⟨A,hA,_⟩:=g0.act;have m5:=tZ g3 x.name;have s5:0<=x.Zq/\x.Zq<=20:=⟨g0.lo,g0.hi⟩;have s6:=Ki s5 m5;obtain⟨nk,i5,m6,m7,m8⟩:=gm hA;obtain⟨nb,no,cs,m9,n0,n1,na,y8,n2,_⟩:=(hN.kept O.o) nk i5;obtain⟨y9,z0,z1,e5,z3,_⟩:=hN nk i5;rw[m9] at e5;cases e5;subst m9;have n3:kr (Kk Kq) x.name= (Kq.getD nk Qz.zero).cost:=by rw[vk hA,m8]
     have d2:wr.cell? ⟨nb,no+nk*3+1,none⟩=some (.int .i64 (kr (Kk Kq) x.name)):=by rw[n3];exact n1 1 _ (by rw[n2];rfl)
     obtain⟨a0,i9⟩:=ag (kr (Kk Kq) x.name);rw[<-i9] at m5 s6 d2;have s7:Hid (∀M:Int,KX Kq x.name M->M= (nk:Int)):=fun M hr=>by
      rcases hr with⟨k2,h1,rfl,h3,h4,h5⟩|⟨_,h2⟩
      ·rcases Qf k2 nk with j|j|j
       ·exact Qi h4 (m7 _ j)
       ·rw[j]
       ·exact Qi m6 (h5 _ j)
      ·rw[hA] at h2;cases h2
     have z4:IntKind.i64.wrap (z+x.Zq)=z+x.Zq:=dK (by omega) (by omega);have z5:IntKind.i64.wrap (x.Zq*a0)=x.Zq*a0:=dK (by omega) (by omega);have z6:IntKind.i64.wrap (y+x.Zq*a0)=y+x.Zq*a0:=dK (by omega) (by omega);have s8:Hid (z+x.Zq=gq (n.take (i+1))/\y+x.Zq*a0=ja (Kk Kq) (n.take (i+1))):=by
      rw[Pb b5,vG,yR,i8,<-HU.o.1,<-HU.o.2,<-i9];exact⟨rfl,rfl⟩
     have n4:=D.o.row.lt;have a3:Hid (∀u:Qy,(∀b,b<w.heap.size+1+1\/b=h->u.heap[b]? =wr.heap[b]?)->u.cell? ⟨h,3,none⟩=some (.int .i64 z)/\u.cell? ⟨h,4,none⟩=some (.int .i64 y)/\u.cell? ⟨w.heap.size+1,1,none⟩=some (.slice (some ⟨rb,ro,none⟩) n.length dc)/\u.cell? ⟨rb,ro+i*7,none⟩=some (.string x.name)/\u.cell? ⟨rb,ro+i*7+5,none⟩=some (.int .i64 x.Zq)/\u.cell? ⟨w.heap.size,0,none⟩=some (.slice (some ⟨nb,no,none⟩) Kq.length cap)/\u.cell? ⟨nb,no+nk*3+1,none⟩=some (.int .i64 a0)):=fun u L=>⟨(Pi (w:=wr) (L h (.inr rfl))).trans D.o.c3,(Pi (w:=wr) (L h (.inr rfl))).trans D.o.c4,(Pi (w:=wr) (L (w.heap.size+1) (.inl (by omega)))).trans V,(Pi (w:=wr) (L rb (.inl (by omega)))).trans t0,(Pi (w:=wr) (L rb (.inl (by omega)))).trans t5,(Pi (w:=wr) (L w.heap.size (.inl (by omega)))).trans T,(Pi (w:=wr) (L nb (.inl (by omega)))).trans d2⟩
     clear T U t0 t5 d2 f9 n1 n3 i9 hx i8 m4 g0 hA m8 m6 m7 n2 HU;have z7:¬h=w.heap.size:=by omega
     go_upto_region 13 with fail
     clear V;refine sP 10 a3.o (fun _ _=>rfl) fun P Q B=>?_
     obtain⟨⟨_,c8⟩,d0⟩:=(D.o.kept Q).row.row.at (i:=3) (by omega);have j0:=(D.o.kept Q).row.lt;refine af 0 B ?_;refine af 4 B ?_;refine ae 8 B ?_;refine ae 9 B ?_;refine ay 10 (fun Z J=>?_);go_simp
     refine J.out _ _ (fun j=>Qi rfl j) ?_;clear J Z;try simp only[Act.put,upA,upB,upC]
     refine az ?_;clear d0 c8 j0;obtain⟨W5,b6⟩:=ag (P.setCell ⟨h,3,none⟩ (.int .i64 (z+x.Zq)));rw[<-b6];have I:Hid (gL C h W5 a2 (.slice q k r) (z+x.Zq) y):=by rw[b6];exact (D.o.kept Q).OD _
     have s9:Hid (W5.ownsRow C.heap.size 116 4 (.slice q k r) k (bQ (l.map R))):=by
      rw[b6];have j:=ai Y.o Q;exact (But.set (S:=fun b=>b=h) (But.aj (K_.refl P)) (p:=⟨h,3,none⟩) rfl _).owns j (fun b e e2=>by have:=(j.lt b e).1;omega)
     have t1:Hid (∀b,b≠h->b<wr.heap.size->W5.heap[b]? =wr.heap[b]?):=fun b hb hz=>by rw[b6,Below.heap_setCell _ _ _ _ hb];exact Q.block b hz
     have j1:Hid (∀u:Qy,(∀b,b<w.heap.size+1+1\/b=h->u.heap[b]? =W5.heap[b]?)->u.cell? ⟨h,4,none⟩=some (.int .i64 y)/\u.cell? ⟨w.heap.size+1,1,none⟩=some (.slice (some ⟨rb,ro,none⟩) n.length dc)/\u.cell? ⟨rb,ro+i*7,none⟩=some (.string x.name)/\u.cell? ⟨rb,ro+i*7+5,none⟩=some (.int .i64 x.Zq)/\u.cell? ⟨w.heap.size,0,none⟩=some (.slice (some ⟨nb,no,none⟩) Kq.length cap)/\u.cell? ⟨nb,no+nk*3+1,none⟩=some (.int .i64 a0)):=fun u L=>by
      have ho:=a3.o wr (fun _ _=>rfl);have d3:∀b o,b<w.heap.size+1+1->u.cell? ⟨b,o,none⟩=wr.cell? ⟨b,o,none⟩:=fun b o hb=>(Pi (w:=W5) (L b (.inl hb))).trans (Pi (w:=wr) (t1.o b (by omega) (by omega)))
      exact⟨(Pi (w:=W5) (L h (.inr rfl))).trans I.o.c4,(d3 _ _ (by omega)).trans ho.2.2.1,(d3 _ _ (by omega)).trans ho.2.2.2.1,(d3 _ _ (by omega)).trans ho.2.2.2.2.1,(d3 _ _ (by omega)).trans ho.2.2.2.2.2.1,(d3 _ _ (by omega)).trans ho.2.2.2.2.2.2⟩
     have t2:wr.heap.size<=W5.heap.size:=by rw[b6,size_setCell];exact Q.size
     clear b6 Q D Y a3 B;clear P;go_upto_region 14 with fail
     refine sP 25 j1.o (fun _ _=>rfl) fun P Q B=>?_
     refine af 0 B ?_;refine af 4 B ?_;refine af 8 B ?_;refine af 12 B ?_;refine ae 16 B ?_;refine ax 17 (fun Z J=>?_);go_simp
     go_at_call 55
     have t3:K_ w P:=(HC.o W5 I.o.but).2.2.2.2.1.trans Q;refine (gp P (some ⟨nb,no,none⟩) cap Kq x.name d6 (hN.kept t3)).mono ?_;rintro e w6 ⟨⟨M,rfl,hr⟩,t4⟩;rw[s7.o M hr];have W:=Q.trans t4;have a7:∀b,b<w.heap.size+1+1\/b=h->w6.heap[b]? =W5.heap[b]? :=fun b hb=>W.block b (by omega)
     have z8:(nk:Int)<(Kq.length:Int):=by omega
     clear hr;dsimp only;refine J.out _ _ (fun _=>j1.o _ a7) ?_;clear J Z B;try simp only[Act.put,upA,upB,upC]
     have B:=j1.o _ a7;refine af 18 B ?_;refine ae 22 B ?_;refine ae 23 B ?_;refine ae 24 B ?_;obtain⟨⟨_,c8⟩,d0⟩:=(I.o.kept W).row.row.at (i:=4) (by omega);have j0:=(I.o.kept W).row.lt;refine ay 25 (fun Z J=>?_);go_simp
     refine J.out _ _ (fun j=>Qi rfl j) ?_;clear J Z;try simp only[Act.put,upA,upB,upC]
     refine az ?_;have g1:Hid (gL C h (w6.setCell ⟨h,4,none⟩ (.int .i64 (y+x.Zq*a0))) a2 (.slice q k r) (z+x.Zq) (y+x.Zq*a0)):=(I.o.kept W).OQ _;have t6:Hid ((w6.setCell ⟨h,4,none⟩ (.int .i64 (y+x.Zq*a0))).ownsRow C.heap.size 116 4 (.slice q k r) k (bQ (l.map R))):=by
      have j:=ai s9.o W;exact (But.set (S:=fun b=>b=h) (But.aj (K_.refl w6)) (p:=⟨h,4,none⟩) rfl _).owns j (fun b e e2=>by have:=(j.lt b e).1;omega)
     clear d0 c8 j0 B;go_wp2
     go_roundw
     case rel=>exact⟨i+1,z+x.Zq,y+x.Zq*a0,by omega,by go_num,s8,g1,t6⟩
     case measure=>simp[intOf];omega
    ·have z9:¬((i:Int)<(n.length:Int)):=by omega
     have n5:i=n.length:=by omega
     have b7:Hid (z=gq n/\y=ja (Kk Kq) n):=by have j:=HU.o;rw[n5,PE] at j;exact j
     have j2:Hid (iY wr q (l.map R)):=by
      obtain⟨a9,c9,e9,t7⟩:=yF Y.o;simp only[PO] at e9;rw[e9.1];exact t7
     have A0:=Kz D.o.no;have b8:Hid ((l.map R).length=k):=by show _=_;rw[Qc];exact f8.o.symm
     have o0:=D.o.c0;have n4:=D.o.row.lt;clear b5 n5 HU Y hi;rcases g8.o with⟨j3,c6⟩|⟨j3,n6⟩
     ·subst j3;have t8:=Kz c6;have o1:=D.o.c1;have t9:=D.o.c2;have o3:=D.o.c3;have v5:=D.o.c4;have d4:Hid (iE Kq l n ⟨0,l.map R,[],z,y⟩):=⟨⟨by rw[b8.o];have:=f8.o;omega,OW _⟩,.inl ⟨d7.o,⟨by rw[e3.o],b7.o.1,b7.o.2,.inl ⟨t8.o,rfl,rfl⟩⟩⟩⟩;clear c6;obtain⟨⟨⟨_,n7⟩,n8⟩,⟨⟨_,n9⟩,o2⟩,⟨⟨_,o4⟩,o5⟩,⟨⟨_,o6⟩,o7⟩,⟨_,o8⟩,o9⟩:=b4.o.row.JK;have p0:=b4.o.lt;go_wp2
      have hX:=OY wr (w.heap.size+1+1) 0 [.int .i64 0,.slice q k r,.slice none 0 0,.int .i64 z,.int .i64 y] (b4.o.row.there (o:=0) (m:=5) (OU _));refine Zx [.int .i64 0,.slice q k r,.slice none 0 0,.int .i64 z,.int .i64 y] _ results25 rfl hX underlying31 rfl Tryz.h_ rfl ⟨_,q,none,r,0, ?_,d4.o, ?_, ?_, ?_⟩
      ·show Ending.returned _=Ending.returned _;rw[b8.o];try rfl
      ·exact nR (vs:=[.int .i64 0,.slice q k r,.slice none 0 0,.int .i64 z,.int .i64 y]) j2.o m3.o
      ·exact (fun i hi=>by cases hi)
      ·exact bG (g:=w.heap.size+1+1) (by omega) [.int .i64 0,.slice q k r,.slice none 0 0,.int .i64 z,.int .i64 y] 0 O.o
     ·subst j3;have p1:=Kz n6;clear n6;have A1:=j9;go_wp2_with fail
      refine (AY wr a cap Kq X l.length rc d dc n d6 (by omega) (AR d7.o.1) (fun M hr _ _=>(d8.o.good M hr).act) (hN.kept O.o) (hS.kept O.o)).mono ?_;rintro e w5 ⟨⟨da,c5,ns,rfl,j4,v6⟩,k5⟩;have I:=Kz (D.o.kept k5);have p2:=Kz (j2.o.kept k5);have j5:=Kz (b4.o.kept k5);have v7:=Kz (m3.o.kept b4.o.lt k5);have v8:=O.o.trans k5;have A2:=I.o.row.lt;have p3:=Kz j4.mem;have A3:=j4.len;obtain⟨T,U,V,_,_,_,_,t2⟩:=HC.o w5 I.o.but;have o0:=I.o.c0;clear j4 v6 D j2 b4 o0 n4;by_cases b9:ns.length=0
      ·have n0:((ns.length:Int) == 0)=true:=by simpa using b9
       have v9:Hid (¬∃M∈n,bL (Kk Kq) (Qq n) M):=fun ⟨M,h1,h2⟩=>by
        have j:=(p3.o M.name).2 ⟨M,h1,rfl,h2⟩;rw[Pk.1 b9] at j;cases j
       have o0:=I.o.c0;obtain⟨⟨_,f0⟩,f7⟩:=I.o.row.row.at (i:=0) (by omega);obtain⟨W6,d5⟩:=ag (w5.setCell ⟨h,0,none⟩ (.int .i64 1));have g1:Hid (gL C h W6 1 (.slice q k r) z y):=by rw[d5];exact I.o.set0 1
       have w0:Hid (iY W6 q (l.map R)):=by rw[d5];exact vo p2.o I.o.no
       have s0:W6.heap.size=w5.heap.size:=by rw[d5,size_setCell]
       clear b9 T U V;obtain⟨T,U,V,_,p4,p5,p6,_⟩:=HC.o W6 g1.o.but;have⟨p7,w2,j6⟩:=bA p5 p6 p4;clear p5 p6 p4;go_upto_region 17 with fail
       rw[<-d5];clear d5 f0 f7;go_wp2_with fail
       refine (BR W6 a cap Kq X l.length rc d dc n d6 (by omega) g3 d8.o (hN.kept j6.o) (hS.kept j6.o)).mono ?_;rintro e w7 ⟨G,H,E,rfl,d2,p8,j7,k7⟩;have a1:=Kz (g1.o.kept k7);have d4:Hid (iE Kq l n ⟨1,l.map R,E,z,y⟩):=⟨⟨by rw[b8.o];have:=f8.o;omega,by
        have h1:=j7.len lh;rw[Qc] at h1;show E.length<=60;omega⟩,.inl ⟨d7.o,⟨by rw[e3.o],b7.o.1,b7.o.2,.inr (.inr ⟨p1.o,v9.o,rfl,j7.Ob lh⟩)⟩⟩⟩
       have p9:=Kz (Ep (g:=h) (o:=2) (v:= .slice G E.length H) p8 a1.o.no);have q5:=Kz (vo (g:=h) (o:=2) (v:= .slice G E.length H) (w0.o.kept k7) a1.o.no);have g2:Hid (aL (w7.setCell ⟨h,2,none⟩ (.slice G E.length H)) (w.heap.size+1+1) 31 5):=(p7.o.kept k7).block (Below.heap_setCell _ _ _ _ (by show w.heap.size+1+1≠h;omega));have j8:Hid (je (w7.setCell ⟨h,2,none⟩ (.slice G E.length H)) (w.heap.size+1+1)):=fun o s e=>w2.o.kept p7.o.lt k7 o s ((Zj (by omega)).symm.trans e)
       have q6:Hid (K_ w (w7.setCell ⟨h,2,none⟩ (.slice G E.length H))):=(j6.o.trans k7).setCell (by show w.heap.size<=h;omega) _;have⟨q0,q1,q3,q4⟩:(w7.setCell ⟨h,2,none⟩ (.slice G E.length H)).cell? ⟨h,0,none⟩=some (.int .i64 1)/\(w7.setCell ⟨h,2,none⟩ (.slice G E.length H)).cell? ⟨h,1,none⟩=some (.slice q k r)/\(w7.setCell ⟨h,2,none⟩ (.slice G E.length H)).cell? ⟨h,3,none⟩=some (.int .i64 z)/\(w7.setCell ⟨h,2,none⟩ (.slice G E.length H)).cell? ⟨h,4,none⟩=some (.int .i64 y):=⟨miss a1.o.c0 (by decide),miss a1.o.c1 (by decide),miss a1.o.c3 (by decide),miss a1.o.c4 (by decide)⟩;have q2:(w7.setCell ⟨h,2,none⟩ (.slice G E.length H)).cell? ⟨h,2,none⟩=some (.slice G E.length H):=bH a1.o.row.row (by omega) _;have w4:h<(w7.setCell ⟨h,2,none⟩ (.slice G E.length H)).heap.size:=by rw[size_setCell];exact a1.o.row.lt
       obtain⟨⟨_,f0⟩,f7⟩:=a1.o.row.row.at (i:=2) (by omega);have A4:=a1.o.row.lt;obtain⟨W8,a5⟩:=ag (w7.setCell ⟨h,2,none⟩ (.slice G E.length H));rw[<-a5] at p9 q5 g2 j8 q6 q0 q1 q2 q3 q4 w4;clear d2 p8 j7 T U V a1;go_upto_region 18 with fail
       rw[<-a5];clear a5 f0 f7;obtain⟨⟨⟨_,n7⟩,n8⟩,⟨⟨_,n9⟩,o2⟩,⟨⟨_,o4⟩,o5⟩,⟨⟨_,o6⟩,o7⟩,⟨_,o8⟩,o9⟩:=g2.o.row.JK;have p0:=g2.o.lt;go_wp2
       have hX:=OY W8 (w.heap.size+1+1) 0 [.int .i64 1,.slice q k r,.slice G E.length H,.int .i64 z,.int .i64 y] (g2.o.row.there (o:=0) (m:=5) (OU _));refine Zx [.int .i64 1,.slice q k r,.slice G E.length H,.int .i64 z,.int .i64 y] _ results25 rfl hX underlying31 rfl Tryz.h_ rfl ⟨_,q,G,r,H, ?_,d4.o, ?_, ?_, ?_⟩
       ·show Ending.returned _=Ending.returned _;rw[b8.o];try rfl
       ·exact nR (vs:=[.int .i64 1,.slice q k r,.slice G E.length H,.int .i64 z,.int .i64 y]) q5.o j8.o
       ·exact Cy (vs:=[.int .i64 1,.slice q k r,.slice G E.length H,.int .i64 z,.int .i64 y]) p9.o j8.o
       ·exact bG (g:=w.heap.size+1+1) (by omega) [.int .i64 1,.slice q k r,.slice G E.length H,.int .i64 z,.int .i64 y] 0 q6.o
      ·have n0:((ns.length:Int) == 0)=false:=by simpa using b9
       have w9:Hid (∃M∈n,bL (Kk Kq) (Qq n) M):=by
        obtain⟨a8,hn⟩:∃a8,a8∈ns:=List.exists_mem_of_ne_nil _ (fun e=>b9 (by rw[e];rfl));obtain⟨M,h1,_,h2⟩:=(p3.o a8).1 hn;exact⟨M,h1,h2⟩
       have o0:=I.o.c0;have o1:=I.o.c1;have t9:=I.o.c2;have o3:=I.o.c3;have v5:=I.o.c4;have d4:Hid (iE Kq l n ⟨2,l.map R,[],z,y⟩):=⟨⟨by rw[b8.o];have:=f8.o;omega,OW _⟩,.inl ⟨d7.o,⟨by rw[e3.o],b7.o.1,b7.o.2,.inr (.inl ⟨p1.o,w9.o,rfl,rfl⟩)⟩⟩⟩;clear b9 T U V;obtain⟨⟨⟨_,n7⟩,n8⟩,⟨⟨_,n9⟩,o2⟩,⟨⟨_,o4⟩,o5⟩,⟨⟨_,o6⟩,o7⟩,⟨_,o8⟩,o9⟩:=j5.o.row.JK;have p0:=j5.o.lt;go_wp2
       have hX:=OY w5 (w.heap.size+1+1) 0 [.int .i64 2,.slice q k r,.slice none 0 0,.int .i64 z,.int .i64 y] (j5.o.row.there (o:=0) (m:=5) (OU _));refine Zx [.int .i64 2,.slice q k r,.slice none 0 0,.int .i64 z,.int .i64 y] _ results25 rfl hX underlying31 rfl Tryz.h_ rfl ⟨_,q,none,r,0, ?_,d4.o, ?_, ?_, ?_⟩
       ·show Ending.returned _=Ending.returned _;rw[b8.o];try rfl
       ·exact nR (vs:=[.int .i64 2,.slice q k r,.slice none 0 0,.int .i64 z,.int .i64 y]) p2.o v7.o
       ·exact (fun i hi=>by cases hi)
       ·exact bG (g:=w.heap.size+1+1) (by omega) [.int .i64 2,.slice q k r,.slice none 0 0,.int .i64 z,.int .i64 y] 0 v8
