import Derived.Test.YtgnkgfjmbmcfcaaGreatDoorKHPlan
import Derived.Test.YtgnkgfjmbmcfcaaGreatDoorKXWork
import Derived.Test.YtgnkgfjmbmcfcaaGreatDoorKOMark4
import Derived.Test.YtgnkgfjmbmcfcaaGreatDoorCards
import Derived.Test.YtgnkgfjmbmcfcaaGreatDoorTie
import Derived.Test.YtgnkgfjmbmcfcaaGreatDoorKFImpl2
import Derived.Test.YtgnkgfjmbmcfcaaGreatDoorKFLaid
import Derived.Test.YtgnkgfjmbmcfcaaGreatDoorKReadN
import Derived.Lib.SmallJoins
set_option maxRecDepth 100000
set_option maxHeartbeats 25600000
namespace Go.Proofs.YtgnkgfjmbmcfcaaGreatDoor
open Go.RowKit Go.Proofs.Tryz
theorem uh{w w1:Qy}{t:TypeId}{v0 v1 v2 v3 v4 c d e f:QA}(k:K_ (w.alloc (.cells #[v0,v1,v2,v3,v4,c,d,e,f] t)) w1):w1.cell? ⟨w.heap.size,0,none⟩=some v0/\w1.cell? ⟨w.heap.size,1,none⟩=some v1/\w1.cell? ⟨w.heap.size,2,none⟩=some v2/\w1.cell? ⟨w.heap.size,3,none⟩=some v3/\w1.cell? ⟨w.heap.size,4,none⟩=some v4/\w1.cell? ⟨w.heap.size,5,none⟩=some c/\w1.cell? ⟨w.heap.size,6,none⟩=some d/\w1.cell? ⟨w.heap.size,7,none⟩=some e/\w1.cell? ⟨w.heap.size,8,none⟩=some f:=by
 have a:w.heap.size<(w.alloc (.cells #[v0,v1,v2,v3,v4,c,d,e,f] t)).heap.size:=by simp
 have h:=X_ w #[v0,v1,v2,v3,v4,c,d,e,f] t;exact⟨(k.cell a).trans (h 0 _ rfl),(k.cell a).trans (h 1 _ rfl),(k.cell a).trans (h 2 _ rfl),(k.cell a).trans (h 3 _ rfl),(k.cell a).trans (h 4 _ rfl),(k.cell a).trans (h 5 _ rfl),(k.cell a).trans (h 6 _ rfl),(k.cell a).trans (h 7 _ rfl),(k.cell a).trans (h 8 _ rfl)⟩
def MF(w:Qy)(b:Nat)(p:vv)(sa ra fa ca:Qx)(sc rc fc cc:Nat):Prop:=w.cell? ⟨b,0,none⟩=some (.int .i64 p.code)/\w.cell? ⟨b,1,none⟩=some (.slice sa p.slots.length sc)/\w.cell? ⟨b,2,none⟩=some (.int .i64 p.fw)/\w.cell? ⟨b,3,none⟩=some (.int .i64 p.out.code)/\w.cell? ⟨b,4,none⟩=some (.slice ra p.out.res.length rc)/\w.cell? ⟨b,5,none⟩=some (.slice fa p.out.chain.length fc)/\w.cell? ⟨b,6,none⟩=some (.int .i64 p.out.aY)/\w.cell? ⟨b,7,none⟩=some (.int .i64 p.out.cost)/\w.cell? ⟨b,8,none⟩=some (.slice ca p.chain.length cc)
theorem Cg{α:Type}(f g:α->Nat)(c:Nat)(h:∀x,f x<=c*g x):∀l:List α,(l.map f).sum<=c*(l.map g).sum
 | []=>by simp
 | x :: r=>by
  have b:=h x;have d:=Cg f g c h r;simp only[List.map_cons,List.sum_cons,Nat.mul_add];omega
theorem yl{α:Type}(f:α->Nat):∀l:List α,(l.map (fun x=>f x+1)).sum= (l.map f).sum+l.length
 | []=>rfl
 | x :: r=>by simp only[List.map_cons,List.sum_cons,PP,yl f r];omega
theorem BZ(l:List Xq):(l.map dE).sum<=8*fU l:=by
 have h:=Cg dE (fun s=>d_ s+1) 8 (fun s=>by
  have c:d_ s= (s.asks.length+ (s.asks.map (·.size)).sum)+ (s.cases.length+ (s.cases.map (·.text.size)).sum)+s.give.size:=rfl;unfold dE;omega) l
 rw[yl] at h;unfold fU;omega
theorem BP(l:List Qz):(l.map dC).sum<=8*eX l:=by
 have h:=Cg dC (fun s=>eQ s+1) 8 (fun d=>by
  have h:=BZ d.steps;have a:eQ d=d.name.size+fU d.steps:=rfl;unfold dC;omega) l
 rw[yl] at h;unfold eX;omega
theorem Mw(w:Qy)(a:Qx)(cap:Nat)(l:List Qz)(rd:Qx)(rc:Nat)(c:List Qw)(kw:Int)(hl:l.length<=maxLen)(hs:∀s∈l,s.Fits)(c3:c.length<=maxLen)(c4:∀s∈c,s.size<=maxLen)(hN:bJ w a l)(hR:Strs w rd c)(h2:jR w):
  Calls prog 3 #[.agg #[.slice a l.length cap],.slice rd c.length rc,.int .i64 kw] w fun e w'=>e= .returned (.bool true)/\K_ w w':=by
 obtain⟨W0,a7⟩:=ag (w.alloc (.cells #[.slice a l.length cap] 24));have h:K_ w W0:=by rw[a7];exact ak _ _
 have c5:Hid (∀w',K_ W0 w'->(fun w'=>w'.cell? ⟨w.heap.size,0,none⟩=some (.slice a l.length cap)) w'):=fun w' f=>(Es (w:=w) (v:= .slice a l.length cap) (t:=24) (w1:=w') (K_.trans (by rw[a7];exact K_.refl _) f)).1
 have z0:w.heap.size+1<=W0.heap.size:=by rw[a7];simp
 go_enter func3,ntmps3
 go_wp2_with fail
 rw[<-a7];clear a7;refine (Jt _ a cap l 1048576 hl hs (hN.kept h) (by omega) (by omega)).mono ?_;rintro e t2 ⟨rfl,K1⟩;by_cases h7:(eX l:Int)<=1048576;rotate_left
 ·rw[cB (by omega)];go_wp2
  go_ret
  exact⟨rfl,h.trans K1⟩
 rw[dZ h7];obtain⟨K,c6⟩:=BK (l:=l) (n:=1048576) (by omega);go_wp2_with fail
 refine (qP _ rd rc c _ c3 c4 (hR.kept (h.trans K1)) (by omega) (by omega)).mono ?_;rintro e w2 ⟨rfl,h8⟩;have L:K_ W0 w2:=by rw[h8];exact K1
 clear h8 K1;by_cases e0:(kZ c:Int)<=1048576-eX l;rotate_left
 ·rw[cB (by omega)];go_wp2
  go_ret
  exact⟨rfl,h.trans L⟩
 rw[dZ e0];have a8:c.length<=1048576:=by unfold kZ at e0;omega
 have h9:1+ (l.map dC).sum+c.length<=33554432:=by
  have h1:=BP l;omega
 have p9:¬((1048576:Int)-eX l-kZ c<0):=by omega
 have i1:=Kz h9;clear h7 e0 h9;have j:=c5.o _ L;have t3:=L.size;go_wp2_with fail
 refine (tY _ a cap l K c6 (hN.kept (h.trans L))).mono ?_;rintro e w3 ⟨bw,rfl,i2,k3,q0⟩;have i3:=Kz i2;clear i2 q0 p9 j;go_wp2_with fail
 refine (jN _ rd rc c a8 (hR.kept (h.trans (L.trans k3)))).mono ?_;rintro e t4 ⟨c1,rfl,i4,k4,_⟩;have i7:=Kz i4;clear i4;go_wp2_with fail
 refine (BV _ (some ⟨bw,0,none⟩) l.length l (some ⟨c1,0,none⟩) c.length c kw K hs a8 c4 (i3.o.kept k4).nodes i7.o).mono ?_;rintro e w5 ⟨o,s8,r8,d8,n8,a9,b0,b1,b2,rfl,i8,⟨i9,j0,j1,j2⟩,j3⟩;obtain⟨k,b3⟩:=ag (w5.alloc (.cells #[.int .i64 o.code,.slice s8 o.slots.length a9,.int .i64 o.fw,.int .i64 o.out.code,.slice r8 o.out.res.length b0,.slice d8 o.out.chain.length b1,.int .i64 o.out.aY,.int .i64 o.out.cost,.slice n8 o.chain.length b2] 33));have N:K_ w5 k:=by rw[b3];exact ak _ _
 have z5:k.heap.size=w5.heap.size+1:=by rw[b3];simp
 have m:K_ W0 k:=L.trans ((k3.trans k4).trans (j3.trans N));have e1:Hid (∀w',K_ k w'->MF w' w5.heap.size o s8 r8 d8 n8 a9 b0 b1 b2):=fun w' f=>uh (w:=w5) (w1:=w') (t:=33) (K_.trans (by rw[b3];exact K_.refl _) f)
 have HT:=Kz (j0.kept N);have HU:=Kz (j1.kept N);have e2:=Kz (i9.kept N);have e3:=Kz (j2.kept N);have j4:=Kz i8;clear j0 j1 i9 j2 i8 i3 i7;go_upto_region 9 with fail
 rw[<-b3];clear b3 N k3 k4 j3 L;have j:=c5.o _ m;go_wp2_with fail
 refine (Lh _ a cap l K c6 (hN.kept (h.trans m))).mono ?_;rintro e A ⟨O,rfl,j5,k6⟩;obtain⟨P,b4⟩:=ag (A.alloc (.cells #[.slice (some ⟨O,0,none⟩) l.length l.length] 37));have kA:K_ A P:=by rw[b4];exact ak _ _
 have z6:P.heap.size=A.heap.size+1:=by rw[b4];simp
 have c7:K_ k P:=k6.trans kA;have HX:Hid (∀w',K_ P w'->(fun w'=>w'.cell? ⟨A.heap.size,0,none⟩=some (.slice (some ⟨O,0,none⟩) l.length l.length)/\w'.cell? ⟨w.heap.size,0,none⟩=some (.slice a l.length cap)) w'):=fun w' f=>⟨(Es (w:=A) (w1:=w') (K_.trans (by rw[<-b4];exact K_.refl _) f)).1,c5.o _ ((m.trans c7).trans f)⟩
 have j6:=Kz (j5.same (kA.same _ _));have t5:=k6.size;have t6:=m.size;clear j j5 kA k6;go_upto_region 10 with fail
 rw[<-b4];clear b4;go_wp2_with fail
 refine (sH _ rd rc c a8 (hR.kept (h.trans (m.trans c7)))).mono ?_;rintro e x ⟨bu,rfl,j7,Q⟩;have e4:=Kz j7;have t7:=Q.size;have y:K_ k x:=c7.trans Q;have e5:=Kz (j6.o.same (Q.same _ _));obtain⟨x0,j⟩:=HX.o x Q;clear j7 j6;go_wp2_with fail
 refine (sZ x (some ⟨O,0,none⟩) l.length l (some ⟨bu,0,none⟩) c.length c kw K hs c3 (OU _) c4 e5.o.nodes e4.o.strs (h2.kept (h.trans (m.trans y)))).mono ?_;rintro e d ⟨b,B,C,D,E,F,G,H,I,q1,q2,q5,rfl,R,j8,k8⟩;obtain rfl:b=o:=iA.one j4.o R;have t8:=R.1.1;have t9:=R.1.2.1;have v0:=R.1.2.2.1;have v1:=R.1.2.2.2;obtain⟨S,b5⟩:=ag (d.alloc (.cells #[.int .i64 b.code,.slice B b.slots.length F,.int .i64 b.fw,.int .i64 b.out.code,.slice C b.out.res.length G,.slice D b.out.chain.length H,.int .i64 b.out.aY,.int .i64 b.out.cost,.slice E b.chain.length I] 33));have kC:K_ d S:=by rw[b5];exact ak _ _
 have v2:S.heap.size=d.heap.size+1:=by rw[b5];simp
 have z8:=k8.size;have j9:Hid (∀w',K_ S w'->MF w' d.heap.size b B C D E F G H I):=fun w' f=>uh (w:=d) (w1:=w') (t:=33) (K_.trans (by rw[b5];exact K_.refl _) f)
 have T:=Kz (j8.same (kC.same _ _));have U:=k8.trans kC;clear j8 R x0 j;have e6:b.slots.length<=maxLen:=by unfold maxLen;omega
 have e7:b.out.res.length<=maxLen:=by unfold maxLen;omega
 have e8:b.out.chain.length<=maxLen:=by unfold maxLen;omega
 have e9:b.chain.length<=maxLen:=by unfold maxLen;omega
 go_upto_region 12 with fail
 rw[<-b5];clear b5 kC k8;obtain⟨V,W,X,Y,Z,g5,g6,g7,g8⟩:=j9.o S (K_.refl _);obtain⟨p0,p1,p2,p3,p4,p5,p6,p7,p8⟩:=e1.o S (y.trans U);go_wp2_with fail
 refine (rF _ _ _ _ _ _ _ _ _ _ B C D E F G H I s8 r8 d8 n8 a9 b0 b1 b2 e6 e7 e8 e9 T.o.sl.Ac (e2.o.kept (y.trans U)) T.o.rs.JJ (HT.o.kept (y.trans U)) T.o.ch.strs (HU.o.kept (y.trans U)) T.o.cn.Ac (e3.o.kept (y.trans U))).mono ?_;rintro e w9 ⟨rfl,k9⟩;have b6:=U.trans k9;have b7:Hid (∀w',K_ w9 w'->(fun w'=>w'.cell? ⟨A.heap.size,0,none⟩=some (.slice (some ⟨O,0,none⟩) l.length l.length)/\w'.cell? ⟨w.heap.size,0,none⟩=some (.slice a l.length cap)) w'):=fun w' f=>HX.o w' (Q.trans (b6.trans f))
 have k0:=h.trans ((m.trans y).trans b6);have f0:=Kz (e5.o.same (b6.same _ _));have f1:=Kz (e4.o.same (b6.same _ _));have k1:=Kz (T.o.same (k9.same _ _));obtain⟨x0,j⟩:=b7.o w9 (K_.refl _);clear e5 e4 T V W X Y Z g5 g6 g7 g8 p0 p1 p2 p3 p4 p5 p6 p7 p8;go_upto_region 14 with fail
 refine aR 4 b7.o fun wd KD k2=>?_
 refine ae 0 k2 ?_;refine ae 1 k2 ?_;refine ax 2 (fun b8 J=>?_);go_simp
 go_at_call 7
 refine (tY _ a cap l K c6 (hN.kept (k0.trans KD))).mono ?_;rintro e wq ⟨bq,rfl,k5,kq,q6⟩;refine J.out _ _ (fun _=>b7.o _ (KD.trans kq)) ?_;clear J b8;try simp only[Act.put,upA,upB,upC]
 refine ax 3 (fun b8 J=>?_);go_simp
 go_at_call 11
 refine (Jo _ (some ⟨O,0,none⟩) (some ⟨bq,0,none⟩) l.length l.length l hl hs (f0.o.same ((KD.trans kq).same _ _)).nodes k5.nodes).mono ?_;rintro e v3 ⟨rfl,f2⟩;refine J.out _ _ (fun _=>b7.o _ ((KD.trans kq).trans f2)) ?_;clear J b8;try simp only[Act.put,upA,upB,upC]
 refine ay 4 (fun b8 J=>?_);go_simp
 refine J.out _ _ (fun q8=>Qi rfl q8) ?_;clear J b8;try simp only[Act.put,upA,upB,upC]
 refine az ?_;have c8:=(KD.trans kq).trans f2;clear KD kq f2 x0 j k5 q6;go_wp2_with fail
 refine (jN _ rd rc c a8 (hR.kept (k0.trans c8))).mono ?_;rintro e v4 ⟨d1,rfl,k7,f3,_⟩;go_wp2_with fail
 refine (mJ _ (some ⟨bu,0,none⟩) (some ⟨d1,0,none⟩) c.length c.length c c3 (f1.o.same ((c8.trans f3).same _ _)).strs k7).mono ?_;rintro e M ⟨rfl,l0⟩;have a0:K_ w9 M:=(c8.trans f3).trans l0;have f4:=b6.trans a0;clear k7 f3 l0 c8;obtain⟨x0,j⟩:=HX.o M (Q.trans f4);have l1:=Kz (f0.o.same (a0.same _ _));have l3:=Kz (f1.o.same (a0.same _ _));have l4:=Kz (k1.o.same (a0.same _ _));have l5:K_ S M:=k9.trans a0;have v5:=l5.size;have p:=Kz (j9.o M l5);have v6:=f4.size;have q9:=y.trans f4;have r0:=i1.o;clear f0 f1 k1 b7 a0;go_wp2_with fail
 refine (Eh _ k.heap.size A.heap.size (some ⟨O,0,none⟩) l.length l 1 (by omega) (by omega) l1.o).mono ?_;rintro e f5 ⟨rfl,_,a1⟩;have r1:K_ k f5:=a1.kept q9 (OU _);have v7:=a1.size;have l6:Hid (∀o,f5.cell? ⟨d.heap.size,o,none⟩=M.cell? ⟨d.heap.size,o,none⟩):=fun o=>Pi (w:=M) (a1.block _ (by show d.heap.size<_;omega) (.inr (by show A.heap.size<=d.heap.size;omega)))
 have l7:=Kz (l3.o.same (a1.same (l2:=P.heap.size) (h2:=x.heap.size) (by omega)));have l8:=Kz (l4.o.same (a1.same (l2:=x.heap.size) (h2:=d.heap.size) (by omega)));obtain⟨kn,l9⟩:=ag (1+ (l.map dC).sum);rw[<-l9];have m0:0<kn:=by omega
 have r2:kn+c.length<=33554432:=by omega
 clear l9 x0 j a1 l1 l3 l4;go_wp2_with fail
 refine (kJ _ P.heap.size x.heap.size (some ⟨bu,0,none⟩) c.length c kn m0 (by omega) l7.o).mono ?_;rintro e c9 ⟨rfl,_,b9⟩;have a2:K_ k c9:=b9.kept r1 (by have:=c7.size;omega);have v8:=b9.size;have q:Hid (∀o,c9.cell? ⟨d.heap.size,o,none⟩=M.cell? ⟨d.heap.size,o,none⟩):=fun o=>(Pi (w:=f5) (b9.block _ (by show d.heap.size<_;omega) (.inr (by show x.heap.size<=d.heap.size;omega)))).trans (l6.o o)
 have a3:=Kz (l8.o.same (b9.same (l2:=x.heap.size) (h2:=d.heap.size) (by omega)));obtain⟨km,m1⟩:=ag (kn+c.length);rw[<-m1];have v9:¬((km:Int)<0):=by omega
 have V:=(q.o 0).trans p.o.1;have W:=(q.o 1).trans p.o.2.1;have X:=(q.o 2).trans p.o.2.2.1;have Y:=(q.o 3).trans p.o.2.2.2.1;have Z:=(q.o 4).trans p.o.2.2.2.2.1;have g5:=(q.o 5).trans p.o.2.2.2.2.2.1;have g6:=(q.o 6).trans p.o.2.2.2.2.2.2.1;have g7:=(q.o 7).trans p.o.2.2.2.2.2.2.2.1;have g8:=(q.o 8).trans p.o.2.2.2.2.2.2.2.2;obtain⟨p0,p1,p2,p3,p4,p5,p6,p7,p8⟩:=e1.o c9 a2;clear m1 b9 l7 l8 m0 r2 r0 i1 l6 q p;go_wp2_with fail
 refine (rF _ _ _ _ _ _ _ _ _ _ B C D E F G H I s8 r8 d8 n8 a9 b0 b1 b2 e6 e7 e8 e9 a3.o.sl.Ac (e2.o.kept a2) a3.o.rs.JJ (HT.o.kept a2) a3.o.ch.strs (HU.o.kept a2) a3.o.cn.Ac (e3.o.kept a2)).mono ?_;rintro e m2 ⟨rfl,g⟩;have r3:=a2.trans g;have m3:=Kz (a3.o.same (g.same _ _));have w0:=g.size;have z:d.heap.size<c9.heap.size:=by omega
 have h0:=(g.cell z).trans V;have h1:=(g.cell z).trans W;have m4:=(g.cell z).trans X;have h3:=(g.cell z).trans Y;have h4:=(g.cell z).trans Z;have h5:=(g.cell z).trans g5;have h6:=(g.cell z).trans g6;have m5:=(g.cell z).trans g7;have m6:=(g.cell z).trans g8;clear a3 g V W X Y Z g5 g6 g7 g8 p0 p1 p2 p3 p4 p5 p6 p7 p8;go_wp2_with fail
 refine (BU _ _ _ _ _ _ _ _ _ _ x.heap.size q1 q2 q5 d.heap.size B C D E F G H I 1 (by omega) (by omega) (by omega) m3.o).mono ?_;rintro e f6 ⟨rfl,m7,d0⟩;have r4:K_ k f6:=d0.kept r3 (by have:=y.size;omega);have w1:=d0.size;have gk:∀o,f6.cell? ⟨d.heap.size,o,none⟩=m2.cell? ⟨d.heap.size,o,none⟩:=fun o=>Pi (w:=m2) (d0.block _ (by show d.heap.size<_;omega) (.inr (OU _)))
 have i0:=(gk 0).trans h0;have m8:=(gk 1).trans h1;have m9:=(gk 2).trans m4;have n0:=(gk 3).trans h3;have n1:=(gk 4).trans h4;have i5:=(gk 5).trans h5;have i6:=(gk 6).trans h6;have n2:=(gk 7).trans m5;have n3:=(gk 8).trans m6;have r:d.heap.size<f6.heap.size:=by omega
 obtain⟨f7,hM⟩:=ag (1+b.slots.length*3+ (b.out.res.length*4+b.out.chain.length)+b.chain.length*3);rw[<-hM];have w4:((f7:Int) != (f7:Int))=false:=by simp
 have w6:¬((f7:Int)<0):=by omega
 have⟨a4,HM⟩:=aD m7 hM;clear hM m7 d0 m3 h0 h1 m4 h3 h4 h5 h6 m5 m6 gk;go_wp2_with fail
 refine (rY _ _ _ _ _ _ _ _ _ _ B C D E F G H I 1 (by omega) (by omega) a4.o.sl.Ac a4.o.rs.JJ a4.o.ch.strs a4.o.cn.Ac).mono ?_;rintro e f8 ⟨rfl,i⟩;rw[<-HM.o];have f9:=r4.trans i;have n4:=Kz (a4.o.same (i.same _ _));have g0:=h.trans (m.trans f9);have r5:Hid (∀w',K_ f8 w'->MF w' d.heap.size b B C D E F G H I):=fun w' f=>⟨((i.trans f).cell r).trans i0,((i.trans f).cell r).trans m8,((i.trans f).cell r).trans m9,((i.trans f).cell r).trans n0,((i.trans f).cell r).trans n1,((i.trans f).cell r).trans i5,((i.trans f).cell r).trans i6,((i.trans f).cell r).trans n2,((i.trans f).cell r).trans n3⟩
 have j:=c5.o f8 (m.trans f9);clear i a4 i0 m8 m9 n0 n1 i5 i6 n2 n3 r;go_wp2_with fail
 refine (tY _ a cap l K c6 (hN.kept g0)).mono ?_;rintro e w7 ⟨r6,rfl,n5,d2,r7⟩;have n6:=Kz n5;clear n5 r7 j;go_wp2_with fail
 refine (jN _ rd rc c a8 (hR.kept (g0.trans d2))).mono ?_;rintro e w8 ⟨s0,rfl,n7,d3,_⟩;have o0:=Kz n7;clear n7;go_wp2_with fail
 refine (sZ _ (some ⟨r6,0,none⟩) l.length l (some ⟨s0,0,none⟩) c.length c kw K hs c3 (OU _) c4 (n6.o.kept d3).nodes o0.o (h2.kept (g0.trans (d2.trans d3)))).mono ?_;rintro e d4 ⟨s1,s9,r9,d9,n9,g1,g2,g3,g4,_,_,_,rfl,o1,o2,o3⟩;obtain rfl:b=s1:=iA.one o1 j4.o;obtain⟨c0,d5⟩:=ag (d4.alloc (.cells #[.int .i64 b.code,.slice s9 b.slots.length g1,.int .i64 b.fw,.int .i64 b.out.code,.slice r9 b.out.res.length g2,.slice d9 b.out.chain.length g3,.int .i64 b.out.aY,.int .i64 b.out.cost,.slice n9 b.chain.length g4] 33));have a5:K_ d4 c0:=by rw[d5];exact ak _ _
 have g9:K_ f8 c0:=(d2.trans d3).trans (o3.trans a5);have c2:=o2.strs;have o4:=Kz (c2.1.kept a5);have o5:=Kz (c2.2.1.kept a5);have o6:=Kz (c2.2.2.1.kept a5);have o7:=Kz (c2.2.2.2.kept a5);have HH:Hid (MF c0 d4.heap.size b s9 r9 d9 n9 g1 g2 g3 g4):=uh (w:=d4) (w1:=c0) (t:=33) (by rw[d5];exact K_.refl _);have a6:=f9.trans g9;have o8:=Kz (n4.o.same (g9.same _ _));clear o2 c2 o1 n4 d2 d3 o3 a5 n6 o0;go_upto_region 32 with fail
 rw[<-d5];clear d5;obtain⟨p0,p1,p2,p3,p4,p5,p6,p7,p8⟩:=e1.o c0 a6;obtain⟨s2,s3,s4,q3,q4,s5,s6,q7,s7⟩:=HH.o;go_wp2_with fail
 refine (rF _ _ _ _ _ _ _ _ _ _ s9 r9 d9 n9 g1 g2 g3 g4 s8 r8 d8 n8 a9 b0 b1 b2 e6 e7 e8 e9 o4.o (e2.o.kept a6) o5.o (HT.o.kept a6) o6.o (HU.o.kept a6) o7.o (e3.o.kept a6)).mono ?_;rintro e t0 ⟨rfl,d6⟩;have d7:=Kz (o8.o.same (d6.same _ _));have t1:=a6.trans d6;obtain⟨V,W,X,Y,Z,g5,g6,g7,g8⟩:=r5.o t0 (g9.trans d6);clear d6 o8 o4 o5 o6 o7 s2 s3 s4 q3 q4 s5 s6 q7 s7 p0 p1 p2 p3 p4 p5 p6 p7 p8 HH;go_wp2_with fail
 refine (rY _ _ _ _ _ _ _ _ _ _ B C D E F G H I 1 (by omega) (by omega) d7.o.sl.Ac d7.o.rs.JJ d7.o.ch.strs d7.o.cn.Ac).mono ?_;rintro e x1 ⟨rfl,o9⟩;rw[<-HM.o];have KF:=h.trans (m.trans (t1.trans o9));clear o9 V W X Y Z g5 g6 g7 g8;go_wp2
 go_ret
 exact⟨rfl,KF⟩
open Go.ChangeShapes Go.WideShapes Go.ChangeAt Go.RowKit Go.Joins Go.ChangeMaps
theorem Tryz.ownV :ownKnob prog.godebug=none:=by kernel_rfl
theorem Tryz.EK :laidOutB prog=true:=by kernel_rfl
theorem Tryz.JM :prog.cellsOf 24=1:=by kernel_rfl
theorem Tryz.EC :prog.cellsOf 22=1:=by kernel_rfl
theorem Kv{cs:Array QA}(h:cs.size=1):∃v,cs= #[v]:=by
 obtain⟨l⟩:=cs
 match l,h with
 | [v],_=>exact⟨v,rfl⟩
theorem Bv{w:Qy}(h:oD w):jR w:=fun W b a c l k d e f g=>Gt W b a c l d e f g (h.kept k)
theorem FE(os:Os)(F:os.Started)(H:Type)(enc:TypeId×QA->H):
  ReturnsInHanded {} Tryz.checked os 3 .any (fun w args=>(Rows.fnExactWorkSpec.pre enc prog f3 [] false w args/\laidMetH prog laid3 w)/\sizedMet enc prog f3 (OpenSpec.ofChange Rows.fnExactWorkSpec) false w args)
   (Rows.fnExactWorkSpec.post enc prog f3 false true false false):=by
 refine returnsInHanded_of_change_and (C:=Tryz.checked) (X:=fun w _=>laidMetH prog laid3 w) (fun _ _ _ G h=>h.of_heap G) Tryz.ownV F (by kernel_rfl) func3
  (ChangeSpec.witness_shaped (enc:=enc) (C:=Tryz.checked) (os:=os) (X:=fun w _=>laidMetH prog laid3 w) false (World.doorLaid prog 400 os) #[.agg #[.slice none 0 0],.slice none 0 0,.int .i64 0] 8 rfl (World.shaped_of_RefB (by kernel_rfl) (by kernel_rfl)) (by kernel_rfl) (by kernel_rfl) (by kernel_rfl) (KU os _)) ?_
 intro W I args J gs b0 f g _ _ K _;have b:∀(j:Nat) t v,f3.params[j]? =some t->args[j]? =some v->Value.okWide prog W .any I t v:=f;have i:=g;obtain⟨L,b1,k,M,rfl,b2,b3⟩:=g;have l:DataW.TrodAll enc prog W 0 (fun _=>true) true f3.params.toList args.toList J L:=k;rw[params3] at l b;obtain⟨n,b4,d0,b5,N,q0,b6,rfl,rfl,p,O⟩:=trodAll_cons l;obtain⟨q,b7,d1,b8,P,q1,rfl,rfl,rfl,r,Q⟩:=trodAll_cons O;obtain⟨s,b9,c0,c1,p2,q2,rfl,rfl,rfl,R,S⟩:=trodAll_cons Q;obtain⟨rfl,rfl,rfl⟩:=trodAll_nil S;obtain rfl:args= #[n,q,s]:=by cases args;simp_all
 obtain⟨rfl,rfl⟩:=trodVars_none M;have y:=p;have c:=r;have T:∀x∈N,x.block<W.heap.size:=by obtain⟨m,d⟩:=y;exact DataW.trod_lt m _ _ _ d
 have U:∀x∈P,x.block<W.heap.size:=by obtain⟨m,d⟩:=c;exact DataW.trod_lt m _ _ _ d
 obtain⟨V,rfl,rfl,rfl,Y⟩:=open_int underlying3 (b 2 3 s rfl rfl) R;obtain⟨cs,rfl,Z⟩:=okWide_struct underlying24 (b 0 24 n rfl rfl);obtain⟨c2,a0⟩:=p;obtain⟨xs,a1,_,_,c3,a2,hf⟩:=DataW.trod_struct underlying24 a0;obtain⟨v,rfl⟩:=Kv (Z.trans Tryz.JM);have z:DataW.trod enc prog W 0 (fun _=>true) true a1 22 (([v].drop 0).take (prog.cellsOf 22))=xs[0]? :=hf 0 _ rfl;rw[Tryz.EC,OZ (by rw[a2];decide)] at z;obtain⟨a,a3,a4,A,hS,hl,hs⟩:=Iy z;simp only[List.drop_zero,List.take_succ_cons,List.take_zero,List.cons.injEq,and_true] at A;subst A;obtain⟨da,a5,a6,rfl⟩:=okWide_slice underlying25 (b 1 25 q rfl rfl);obtain⟨c4,a7⟩:=r;obtain⟨B,D,E,e2,hR,a8,_,a9⟩:=CL a7;have e4:Value.slice da a5 a6= .slice B D.length E:=by simpa[Value.cells] using e2
 rw[e4] at c i⊢;clear k f;refine (Mw W a a4 a3 B E D V hl hs a8 a9 hS hR (Bv (DI K))).mono fun c5 W' ⟨he,e⟩=>?_
 subst he;exact⟨_,rfl,_,_,_,[],_,[],i,trodAll_mk1 (shut_bool underlying4 _),(trodAll_cons_mk (Below.trod Tryz.EK (by kernel_rfl) (of_decide_eq_true (by kernel_rfl)) y e T) (trodAll_cons_mk (Below.trod Tryz.EK (by kernel_rfl) (of_decide_eq_true (by kernel_rfl)) c e U) (trodAll_cons_mk (shut_int underlying3 Y) trodAll_mk0))),rfl,Below.frame e _,fun h=>by cases h⟩
theorem IJ :Rows.FnExactWorkSaid:=
 OpenClaim.holds_of_wide 3 f3 rfl rfl rfl rfl rfl rfl rfl ⟨rfl,rfl,rfl,rfl,rfl⟩ rfl rfl rfl rfl rfl (by kernel_rfl) func3 (by kernel_rfl)
  (of_decide_eq_true (by kernel_rfl)) (by unfold Func.isWrapper;first | (rw[Qg (by decide+kernel)];kernel_rfl) | (rw[Qh (by decide+kernel)];exact⟨rfl,rfl⟩))
  (fun a b H d _=>FE a b H d)
theorem workCardHolds :Rows.FnExactWorkCardSaid:=
 Claim7.holds_tied_plain_at .later [] [.data,.data,.data] true Rows.fnExactWorkCard.stood.harness Rows.fnExactWorkCard.stood.looks
  IJ (fun _ h=>by cases h) (by kernel_rfl) (fun _ h=>by cases h) fnExactWork_row_tie rfl ⟨rfl,rfl⟩ (by kernel_rfl) rfl
  (fun f b c d=>by
   obtain rfl:f=3:=PW ((show prog.funcNamed Rows.fnExactWorkRow.func=some 3 by kernel_rfl).symm.trans c) |>.symm;obtain rfl:b=f3:=(PW (func3.symm.trans d)).symm;exact⟨by kernel_rfl,fun j t a=>by
    rw[params3] at a;have e:t∈[24,25,3]:=by simpa using Array.mem_of_getElem? a
    have g:([24,25,3].all fun u=>!prog.wantsStandIn u)=true:=by kernel_rfl
    exact (show prog.wantsStandIn t=false by simpa using List.all_eq_true.1 g t e)⟩)
  (by kernel_rfl)
