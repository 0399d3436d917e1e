import Derived.Test.YtgnkgfjmbmcfcaaGreatDoorKOConcat
import Derived.Test.YtgnkgfjmbmcfcaaGreatDoorKWGo7
import Derived.Test.YtgnkgfjmbmcfcaaGreatDoorKVAppr
import Derived.Laws.AppendOwnNone
set_option maxRecDepth 100000
set_option maxHeartbeats 25600000
namespace Go.Proofs.YtgnkgfjmbmcfcaaGreatDoor
open Go.RowKit Go.Proofs.Tryz
theorem BB(w:Qy)(cost b:Int)(a d:Qx)(cap f:Nat)(l:List Xq)(ans:List Xz)(i:l.length<=maxLen)(j:∀s∈l,s.Fits)(k:Steps w a l)
  (m:ans.length<=maxLen) (n:∀c∈ans,c.text.size<=maxLen) (p:eP w d ans):
  Calls prog 169 #[.agg #[.int .i64 cost,.slice a l.length cap],.int .i64 b,.slice d ans.length f] w fun e w'=>(∃g,e= .returned (.agg g.cells.toArray)/\mG cost l b ans g)/\K_ w w':=by
 by_cases h:oo cost l b/\ans.length= (ll l b).asks.length
 ·exact Bq w cost b a d cap f l ans i j k m n p h.1 h.2
 ·exact Da w cost b a d cap f l ans i j k m n p h
theorem Ko(D w:Qy)(kW:K_ D w)(a:Qx)(cap:Nat)(Kq:List Qz)(ra:Qx)(rn rc:Nat)(d:Qx)(dc:Nat)(l:List Q_)(r:Q_)(xa:Qx)(xc:Nat)(j7:Kq.length<=1048576)(w3:l.length<=1048576)(j8:kY Kq)(w5:a_ (Kk Kq))(o6:∀y∈Kq,y.Fits)
  (hgd:r.Good Kq) (o7:iD Kq (Qq l)) (j9:bL (Kk Kq) (Qq l) r) (hN:bJ D a Kq) (hS:gD w d l) (hT:Strs D xa r.texts) (hX:xa=none->xc=0):
  Calls prog 140 #[.agg #[.slice a Kq.length cap],.agg #[.slice ra rn rc,.slice d l.length dc],.agg #[.string r.name,.bool r.over,.bool r.fail,.string r.text,.int .i64 r.at',.int .i64 r.Zq,.slice xa r.texts.length xc]] w fun e w'=>yU D.heap.size (w.heap.size+2) (Kk Kq) (Qq l) r w' e/\K_ w w':=by
 have k0:=Kz hX;clear hX;obtain⟨B6,hA,i4,e6⟩:=hgd.act;obtain⟨d1,hk,k1,o8,rfl⟩:=gm hA;obtain⟨y,hy⟩:=ag (Kq.getD d1 Qz.zero);rw[<-hy] at hA k1 e6;dsimp only at e6;obtain⟨WB,c2⟩:=ag ((((w.alloc (.cells #[.slice a Kq.length cap] 37)).alloc (.cells #[.slice ra rn rc,.slice d l.length dc] 53)).alloc (.cells #[.string r.name,.bool r.over,.bool r.fail,.string r.text,.int .i64 r.at',.int .i64 r.Zq,.slice xa r.texts.length xc] 103)).alloc (.cells #[.string ⟨#[]⟩,.bool false,.bool false,.string ⟨#[]⟩,.int .i64 0,.int .i64 0,.slice none 0 0] 103));have kB:K_ w WB:=by rw[c2];exact (((ak _ _).alloc _).alloc _).alloc _
 have w6:WB.heap.size=w.heap.size+4:=by rw[c2];simp
 have b0:WB.cell? ⟨w.heap.size,0,none⟩=some (.slice a Kq.length cap):=by rw[c2,K_.cell (w:=w.alloc (.cells #[.slice a Kq.length cap] 37)) (((ak _ _).alloc _).alloc _) (by simp)];exact X_ w _ _ 0 _ rfl
 have x2:WB.cell? ⟨w.heap.size+1,0,none⟩=some (.slice ra rn rc):=by have:=X_ (w.alloc (.cells #[.slice a Kq.length cap] 37)) #[.slice ra rn rc,.slice d l.length dc] 53 0 _ rfl;rw[PL] at this;rw[c2,K_.cell (w:=(w.alloc (.cells #[.slice a Kq.length cap] 37)).alloc (.cells #[.slice ra rn rc,.slice d l.length dc] 53)) ((ak _ _).alloc _) (by simp)];exact this
 have x3:WB.cell? ⟨w.heap.size+1,1,none⟩=some (.slice d l.length dc):=by have:=X_ (w.alloc (.cells #[.slice a Kq.length cap] 37)) #[.slice ra rn rc,.slice d l.length dc] 53 1 _ rfl;rw[PL] at this;rw[c2,K_.cell (w:=(w.alloc (.cells #[.slice a Kq.length cap] 37)).alloc (.cells #[.slice ra rn rc,.slice d l.length dc] 53)) ((ak _ _).alloc _) (by simp)];exact this
 have o9:og WB (w.heap.size+2) r xa xc:=by
  have H:=aL.made ((w.alloc (.cells #[.slice a Kq.length cap] 37)).alloc (.cells #[.slice ra rn rc,.slice d l.length dc] 53)) #[.string r.name,.bool r.over,.bool r.fail,.string r.text,.int .i64 r.at',.int .i64 r.Zq,.slice xa r.texts.length xc] 103;have h2:=X_ ((w.alloc (.cells #[.slice a Kq.length cap] 37)).alloc (.cells #[.slice ra rn rc,.slice d l.length dc] 53)) #[.string r.name,.bool r.over,.bool r.fail,.string r.text,.int .i64 r.at',.int .i64 r.Zq,.slice xa r.texts.length xc] 103;simp only[PL] at H h2;have x4:og (((w.alloc (.cells #[.slice a Kq.length cap] 37)).alloc (.cells #[.slice ra rn rc,.slice d l.length dc] 53)).alloc (.cells #[.string r.name,.bool r.over,.bool r.fail,.string r.text,.int .i64 r.at',.int .i64 r.Zq,.slice xa r.texts.length xc] 103)) (w.heap.size+2) r xa xc:=⟨H,h2⟩;rw[c2];exact x4.kept (ak _ _)
 have p0:aL WB (w.heap.size+2+1) 103 7:=by
  have H:=aL.made (((w.alloc (.cells #[.slice a Kq.length cap] 37)).alloc (.cells #[.slice ra rn rc,.slice d l.length dc] 53)).alloc (.cells #[.string r.name,.bool r.over,.bool r.fail,.string r.text,.int .i64 r.at',.int .i64 r.Zq,.slice xa r.texts.length xc] 103)) #[.string ⟨#[]⟩,.bool false,.bool false,.string ⟨#[]⟩,.int .i64 0,.int .i64 0,.slice none 0 0] 103;simp only[PL] at H;rw[c2];exact H
 have z0:w.heap.size<WB.heap.size:=by omega
 have z1:w.heap.size+1<WB.heap.size:=by omega
 have⟨f4,i5,p2,p3⟩:=oZ kB o9 p0 w6;clear kB o9 p0;have p4:=(hN.kept kW).kept f4.o;have i6:=Kz kW;have f6:=kW.trans f4.o;have p5:=kW.size;clear kW;obtain⟨nb,nq,I,d2,k2,V,na,P,rfl,i7⟩:=hN d1 hk;rw[<-hy] at V i7;have p6:nb<WB.heap.size:=OV k2 f6.size;have n1:=(f6.cell k2).trans (V 1 _ rfl);have n2:=(f6.cell k2).trans (V 2 _ rfl);subst d2;have⟨k3,p7⟩:=aD p4 i7;have p8:=Kz (Steps.kept i7 f6);have p9:Hid (eB D.heap.size WB (w.heap.size+2) xa r.texts):=eB.old hT f6 (OU _);obtain⟨q0,_,_,_,_,_,_⟩:=i5.o.all;have rz:=i5.o.row.lt;have⟨HY,b7⟩:=aD hy hA;clear V i7 p4 hy hA;go_enter func140,ntmps140
 go_upto_region 1 with fail
 rw[<-c2];clear c2;go_cut [8] from 13 to 21 (fun x5 wx=>∃Q,x5= .pointer (some ⟨Q,0,none⟩)/\K_ WB wx/\NSt D.heap.size w wx Q y.cost na y.steps.length P r xa xc)
 case first=>
  have d3:Hid (∀w',K_ WB w'->w'.cell? ⟨w.heap.size,0,none⟩=some (.slice (some ⟨nb,nq,none⟩) Kq.length cap)/\w'.cell? ⟨w.heap.size+2,0,none⟩=some (.string r.name)/\w'.cell? ⟨nb,nq+d1*3+1,none⟩=some (.int .i64 y.cost)/\w'.cell? ⟨nb,nq+d1*3+2,none⟩=some (.slice na y.steps.length P)):=fun w' K=>⟨(K.cell z0).trans b0,(K.cell rz).trans q0,(K.cell p6).trans n1,(K.cell p6).trans n2⟩
  have B7:(d1:Int)<(Kq.length:Int):=by omega
  refine aR 10 d3.o fun wd KD g=>?_
  refine af 0 g ?_;refine ae 4 g ?_;refine wK 5 9 (fun K k=>?_) (fun K k=>?_)
  ·rw[Qg (by rfl)];go_simp
   go_at_call 55
   refine (gp wd (some ⟨nb,nq,none⟩) cap Kq r.name j7 (k3.o.kept KD)).mono ?_;rintro e w2 ⟨⟨k4,rfl,hq⟩,i8⟩;have K2:=KD.trans i8;obtain rfl:k4= (d1:Int):=by
    rcases hq with⟨k',_,e',_,H,h2⟩|⟨_,H⟩
    ·rw[e',nQ (by rw[<-HY.o];exact k1) o8 H h2]
    ·rw[b7.o] at H;cases H
   clear hq;dsimp only;refine k.out _ _ (fun _=>d3.o _ K2) ?_;clear k K;try simp only[Act.put,upA,upB,upC]
   clear g;have g:=d3.o _ K2;refine ae 6 g ?_;refine ae 7 g ?_;refine ae 8 g ?_;refine ay 9 (fun K k=>?_);go_simp
   have K3:K_ w2 (w2.alloc (.cells #[.int .i64 0,.slice none 0 0] 88)):=ak _ _;refine k.out _ _ (fun _=>d3.o _ (K2.trans K3)) ?_;clear k K;try simp only[Act.put,upA,upB,upC]
   have b8:aL (w2.alloc (.cells #[.int .i64 0,.slice none 0 0] 88)) w2.heap.size 88 2:=aL.made w2 _ _;have KE:=K2.trans K3;generalize x6:w2.alloc (.cells #[.int .i64 0,.slice none 0 0] 88)=wE at b8 KE⊢;clear x6 K3;obtain⟨⟨_,R⟩,k7⟩:=b8.row.at (i:=0) (by omega);obtain⟨⟨_,q1⟩,k8⟩:=b8.row.at (i:=1) (by omega);have vz:=b8.lt;refine ay 10 (fun K k=>?_);go_simp
   refine k.out _ _ (fun b3=>Qi rfl b3) ?_;clear k K;try simp only[Act.put,upA,upB,upC]
   refine az ?_;go_wp2
   go_meet
   exact⟨w2.heap.size,rfl,NSt.made f4.o p3.o KE i5.o p2.o p5 p9.o k0.o K2.size b8⟩
  ·rw[Qg (by rfl)];go_simp
   have K3:K_ wd (wd.alloc (.cells #[.int .i64 0,.slice none 0 0] 88)):=ak _ _;have l0:=KD.trans K3;refine k.out _ _ (fun _=>d3.o _ l0) ?_;clear k K;try simp only[Act.put,upA,upB,upC]
   refine ax 5 (fun K k=>?_);go_simp
   go_at_call 55
   refine (gp (wd.alloc (.cells #[.int .i64 0,.slice none 0 0] 88)) (some ⟨nb,nq,none⟩) cap Kq r.name j7 (k3.o.kept l0)).mono ?_;rintro e w2 ⟨⟨k4,rfl,hq⟩,i8⟩;have K2:=l0.trans i8;obtain rfl:k4= (d1:Int):=by
    rcases hq with⟨k',_,e',_,H,h2⟩|⟨_,H⟩
    ·rw[e',nQ (by rw[<-HY.o];exact k1) o8 H h2]
    ·rw[b7.o] at H;cases H
   clear hq;dsimp only;refine k.out _ _ (fun _=>d3.o _ K2) ?_;clear k K;try simp only[Act.put,upA,upB,upC]
   clear g;have g:=d3.o _ K2;refine ae 6 g ?_;refine ae 7 g ?_;refine ae 8 g ?_;have b8:aL w2 wd.heap.size 88 2:=(aL.made wd #[.int .i64 0,.slice none 0 0] 88).kept i8;obtain⟨⟨_,R⟩,k7⟩:=b8.row.at (i:=0) (by omega);obtain⟨⟨_,q1⟩,k8⟩:=b8.row.at (i:=1) (by omega);have vz:=b8.lt;refine ay 10 (fun K k=>?_);go_simp
   refine k.out _ _ (fun b3=>Qi rfl b3) ?_;clear k K;try simp only[Act.put,upA,upB,upC]
   refine az ?_;go_wp2
   go_meet
   exact⟨wd.heap.size,rfl,NSt.made f4.o p3.o K2 i5.o p2.o p5 p9.o k0.o KD.size b8⟩
 case rest=>
  obtain⟨Q,rfl,Kx,q2⟩:=hcut;have d4:=Kz q2;clear q2 q0 rz n1 n2;have lo:=hgd.lo;have q3:=hgd.hi;have tl:=hgd.tl;obtain⟨n,p,q,t,i,v,j⟩:=d4.o.box.all;have x:=d4.o.box.row.lt;go_upto_if 24 with fail
  go_cut [9,10,11] from 24 to 74 (fun _ _ _ wx=>∃(f:Q_) (a9:Qx) (b1:Nat),NSt D.heap.size w wx Q y.cost na y.steps.length P f a9 b1/\Xx (Kk Kq) (Qq l) r=gu ⟨y.cost,y.steps⟩ f/\0<=f.at'/\f.at' < y.steps.length/\0<=f.Zq/\f.Zq<20/\f.texts.length<=200/\∀b9∈f.texts,b9.size<=200)
  case first=>
   by_cases hv:r.Zq=0
   ·have x7:¬(0:Int)<r.Zq:=by omega
    have HV:=Kz hv;clear hv;go_wp2
    go_meet
    exact⟨r,xa,xc,d4.o,(by unfold Xx;rw[b7.o];simp[HV.o]),i4,e6,lo,by omega,by omega,hgd.ts⟩
   ·have B8:(0:Int)<r.Zq:=by omega
    have B9:=q3;obtain⟨E,c6⟩:∃E:Nat,r.at'= (E:Int):=⟨r.at'.toNat,by omega⟩;have e7:E<y.steps.length:=by omega
    have x8:(E:Int)<(y.steps.length:Int):=by omega
    obtain⟨F,G,x9,rfl,c4,J,W,Y,ac,cc,rfl,e8,q4,_⟩:=(Steps.kept p8.o Kx) E e7;obtain⟨s,hs⟩:=ag (y.steps.getD E Xq.zero);rw[<-hs] at J e8 q4;have t0:=J 0 _ rfl;have t1:=J 1 _ rfl;have t2:=J 2 _ rfl;have t3:=J 3 _ rfl;have t4:=J 4 _ rfl;have t5:=J 5 _ rfl;have t6:=J 6 _ rfl;have t7:=J 7 _ rfl;rw[PR] at t0;have f7:s∈y.steps:=by rw[hs];simp[List.getD,e7]
    have e9:y∈Kq:=by rw[HY.o];simp[List.getD,hk]
    have q5:=(j8 y e9 s f7).1;have y2:=(j8 y e9 s f7).2;have q6:=o6 y e9;have c0:Hid (stepOf ⟨y.cost,y.steps⟩ r.at'=s):=by show _=_;unfold stepOf;rw[c6,hs];rfl
    obtain⟨h,c7⟩:∃h,Hid (Yz (Kk Kq) (Qq l) s.asks=some h):=by
     rcases j9.2 with e|⟨A',h,H,h2⟩
     ·exact Qi e hv
     ·rw[b7.o] at H;cases H;rw[c0.o] at h2;exact⟨h,h2⟩
    have q7:=(Kx.cell z0).trans b0;have m1:=(Kx.cell z1).trans x2;have m2:=(Kx.cell z1).trans x3;have y0:=OV z0 Kx.size;have y1:=OV z1 Kx.size;have p1:=d4.o.a1;have pz:=d4.o.abz;rw[c6] at i;have⟨y3,C0,C1⟩:=bA e8 c6 hs;clear J e8 q4 hs c6;have d5:Hid (∀w',K_ wc w'->w'.cell? ⟨w.heap.size,0,none⟩=some (.slice (some ⟨nb,nq,none⟩) Kq.length cap)/\w'.cell? ⟨w.heap.size+1,0,none⟩=some (.slice ra rn rc)/\w'.cell? ⟨w.heap.size+1,1,none⟩=some (.slice d l.length dc)/\w'.cell? ⟨Q,1,none⟩=some (.slice (some ⟨F,G,none⟩) y.steps.length P)/\w'.cell? ⟨w.heap.size+2,4,none⟩=some (.int .i64 (E:Int))/\w'.cell? ⟨F,G+E*8,none⟩=some (.slice W s.asks.length Y)/\w'.cell? ⟨F,G+E*8+1,none⟩=some (.int .i64 s.on)/\w'.cell? ⟨F,G+E*8+2,none⟩=some (.slice ac s.cases.length cc)/\w'.cell? ⟨F,G+E*8+3,none⟩=some (.int .i64 s.els)/\w'.cell? ⟨F,G+E*8+4,none⟩=some (.int .i64 s.fall)/\w'.cell? ⟨F,G+E*8+5,none⟩=some (.bool s.fin)/\w'.cell? ⟨F,G+E*8+6,none⟩=some (.bool s.bad)/\w'.cell? ⟨F,G+E*8+7,none⟩=some (.string s.give)):=fun w' K=>⟨(K.cell y0).trans q7,(K.cell y1).trans m1,(K.cell y1).trans m2,(K.cell pz).trans p1,(K.cell x).trans i,(K.cell c4).trans t0,(K.cell c4).trans t1,(K.cell c4).trans t2,(K.cell c4).trans t3,(K.cell c4).trans t4,(K.cell c4).trans t5,(K.cell c4).trans t6,(K.cell c4).trans t7⟩
    go_upto_region 3 with fail
    refine jI 14 d5.o (bB wc) (fun g=>?_);have KD:K_ wc wc.drew:=bB wc;generalize f8:wc.drew=wd at g KD⊢;clear f8 q7 m1 m2 t0 t1 t2 t3 t4 t5 t6 t7 p1 n p q t i v j;refine ae 0 g ?_;refine ae 1 g ?_;refine af 3 g ?_;refine ae 7 g ?_;refine ae 8 g ?_;refine ax 2 (fun K k=>?_);go_simp
    go_at_call 56
    refine (pg wd (some ⟨nb,nq,none⟩) Kq.length cap ra rn rc d l.length dc).mono ?_;rintro e y4 ⟨kb,rfl,q8,q9⟩;have K1:=KD.trans q9;have r0:=Kz q8;clear q8 q9;dsimp only;refine k.out _ _ (fun _=>d5.o _ K1) ?_;clear k K;try simp only[Act.put,upA,upB,upC]
    clear g;refine ax 9 (fun K k=>?_);go_simp
    go_at_call 141
    refine (uX y4 kb (some ⟨nb,nq,none⟩) cap Kq d dc l s W ac Y cc j7 w3 q5 y2 r0.o (k3.o.kept (Kx.trans K1)) (hS.kept (f4.o.trans (Kx.trans K1))) (y3.o.kept K1)).mono ?_;rintro e r1 ⟨⟨l1,C2,c3,ok,rfl,r2,r3⟩,r4⟩;have K3:=K1.trans r4;clear r4;obtain rfl:ok=true:=by cases ok with|true=>rfl|false=>rw[r3 rfl] at c7;cases c7.o
    obtain⟨y5,r5,rfl,r6⟩:=r2 rfl;obtain rfl:h=y5:=Option.some.inj (c7.o.symm.trans r5);have l2:=Kz r6;clear r2 r3 r5 r6;dsimp only;refine k.out _ _ (fun _=>d5.o _ K3) ?_;clear k K;try simp only[Act.put,upA,upB,upC]
    refine ay 10 (fun K k=>?_);go_simp
    refine k.out _ _ (fun _=>d5.o _ K3) ?_;clear k K;try simp only[Act.put,upA,upB,upC]
    have g:=d5.o _ K3;refine ae 11 g ?_;refine ae 12 g ?_;refine ay 13 (fun K k=>?_);go_simp
    refine k.out _ _ (fun _=>d5.o _ K3) ?_;clear k K;try simp only[Act.put,upA,upB,upC]
    refine ay 14 (fun K k=>?_);go_simp
    refine k.out _ _ (fun b3=>Qi rfl b3) ?_;clear k K;try simp only[Act.put,upA,upB,upC]
    refine az ?_;have b2:=Kz (d4.o.kept K3);clear g d5 KD K1 r0;by_cases d6:r.Zq=20
    ·have y6:(r.Zq == 20)=true:=by simp[d6]
     have y7:=Kz d6;clear d6;obtain⟨n,p,q,t,i,v,j⟩:=b2.o.box.all;have x:=b2.o.box.row.lt;go_upto_region 5 with fail
     clear n p q t i v j x;obtain⟨n,p,q,t,i,v,j⟩:=b2.o.box.all;have x:=b2.o.box.row.lt;obtain⟨_,f9⟩:=b2.o.box.row.row.at (i:=1) (by omega);go_upto_region 6 with fail
     have g0:Hid (NSt D.heap.size w (r1.setCell ⟨w.heap.size+2,1,none⟩ (.bool true)) Q y.cost (some ⟨F,G,none⟩) y.steps.length P ({r with over:=true}) xa xc):=b2.o.put (by omega) rfl rfl;generalize z:r1.setCell ⟨w.heap.size+2,1,none⟩ (.bool true)=w4 at g0  ⊢;clear z;clear n p q t i v j x;clear f9;obtain⟨n,p,q,t,i,v,j⟩:=g0.o.box.all;have x:=g0.o.box.row.lt;obtain⟨_,g1⟩:=g0.o.box.row.row.at (i:=2) (by omega);go_upto_region 7 with fail
     have g2:Hid (NSt D.heap.size w (w4.setCell ⟨w.heap.size+2,2,none⟩ (.bool true)) Q y.cost (some ⟨F,G,none⟩) y.steps.length P ({r with over:=true,fail:=true}) xa xc):=g0.o.put (by omega) rfl rfl;generalize z:w4.setCell ⟨w.heap.size+2,2,none⟩ (.bool true)=C at g2  ⊢;clear z;clear n p q t i v j x;clear g1;obtain⟨n,p,q,t,i,v,j⟩:=g2.o.box.all;have x:=g2.o.box.row.lt;obtain⟨_,g3⟩:=g2.o.box.row.row.at (i:=3) (by omega);go_upto_region 8 with fail
     have M:Hid (NSt D.heap.size w (C.setCell ⟨w.heap.size+2,3,none⟩ (.string ⟨#[115,112,101,110,116]⟩)) Q y.cost (some ⟨F,G,none⟩) y.steps.length P ({r with over:=true,fail:=true,text:=oV}) xa xc):=g2.o.put (by omega) rfl rfl;generalize z:C.setCell ⟨w.heap.size+2,3,none⟩ (.string ⟨#[115,112,101,110,116]⟩)=A at M  ⊢;clear z;clear n p q t i v j x;clear g3;obtain⟨I,V⟩:=ag (Q_.cells ({r with over:=true,fail:=true,text:=oV}) xa xc);have Z:I.length=7:=by rw[V];rfl
     have l3:Hid (I.toArray.all (·.oneCell')=true):=by show _=_;rw[V];exact all_oneCell_toArray (by simp[Q_.cells,Value.oneCell'])
     have l4:Hid (A.rangeAt (w.heap.size+2) 0 I):=by show World.rangeAt _ _ _ _;rw[V];exact M.o.box.rng
     have x:=M.o.box.row.lt;have l5:Hid ((prog.info? 103).map (·.size)=some I.toArray.size):=by show _=_;rw[Tryz.nI];simp[Z]
     have g6:Hid ((prog.info? 103).map (·.size)=some I.length):=by show _=_;rw[Tryz.nI,Z]
     have g7:=Kz (M.o.kept ((K_.refl A).alloc (.cells #[] 9)));have g8:Hid ((A.alloc (.cells #[] 9)).there (w.heap.size+3) 0 I.toArray.size):=by show World.there _ _ _ _;simpa[Z] using g7.o.res.row.there (o:=0) (m:=7) (OU _)
     have⟨l6,y8⟩:=aD V Z;clear V Z;go_wp2_with (first | (refine wpList_load_mid rfl 103 _ rfl (w.heap.size+2) 0 rfl I _ l4.o underlying103 rfl g6.o ?_) | (refine wpList_store_mid rfl 103 _ _ rfl (w.heap.size+3) 0 I.toArray rfl rfl g8.o l5.o l3.o ?_;rw[List.toList_toArray]))
     have hR:=OY (A.alloc (.cells #[] 9)) (w.heap.size+3) 0 I (by have:=g8.o;simpa using this);refine bS I _ _ results140 rfl hR underlying103 rfl g6.o rfl rfl ?_;have l7:=l6.o;subst l7;exact g7.o.ends (by unfold Xx;rw[b7.o];simp only;rw[Qh hv,c0.o,c7.o];simp[y7.o]) (asks:=[]) (fun y9 hi=>by simp at hi) rfl rfl
    ·have y6:(r.Zq == 20)=false:=by simpa using d6
     have i9:=(w5 _ _ b7.o).1;obtain⟨r7,l8⟩:=jM i9 i4 e6;rw[c0.o] at r7 l8;have r8:∀l9∈s.asks,l9.size<=20:=fun l9 hn=>(l8 l9 hn).2.1
     obtain⟨m0,r9⟩:=rG o7 r8 c7.o;have C3:h.length<=5:=by rw[m0.1];exact r7
     have HW:Hid (mG y.cost y.steps r.at' h (fq s h)):= .inr ⟨⟨i9,⟨i4,e6⟩,hgd.stp _ b7.o j9.1 hv⟩,by have e:ll y.steps r.at'=s:=c0.o;rw[e];exact lD m0⟩;have⟨m3,C4⟩:=aD r9 i9;clear r9 i9 l8 r8 m0;have s0:h.length<=maxLen:=by unfold maxLen;omega
     have s1:∀m4∈h,m4.text.size<=maxLen:=fun m4 hc=>by have:=m3.o m4 hc;unfold maxLen;omega
     have z2:=b2.o.a0;have p1:=b2.o.a1;have z3:=b2.o.abz;obtain⟨n,p,q,t,i,v,j⟩:=b2.o.box.all;have x:=b2.o.box.row.lt;go_wp2_with fail
     refine (BB _ y.cost r.at' (some ⟨F,G,none⟩) l1 P c3 y.steps h q6.steps q6.each (Steps.kept p8.o (Kx.trans K3)) s0 s1 l2.o).mono ?_;rintro e C ⟨⟨s2,rfl,hG⟩,k5⟩;have s3:s2=fq s h:=hG.unique HW.o;obtain⟨gc,go,gt,N⟩:=s2;have g9:=Kz s3;have s4:(bW.mk gc go gt N).cells.toArray= #[.int .i64 gc,.bool go,.int .i64 gt,.string N]:=rfl;rw[s4];clear s4 hG s3;have k6:K_ C (C.alloc (.cells #[.int .i64 gc,.bool go,.int .i64 gt,.string N] 244)):=ak _ _;have K6:=k5.trans k6;have M:=Kz (b2.o.kept K6);have d2:=X_ C #[.int .i64 gc,.bool go,.int .i64 gt,.string N] 244 1 _ rfl;have c8:=X_ C #[.int .i64 gc,.bool go,.int .i64 gt,.string N] 244 2 _ rfl;have O:=X_ C #[.int .i64 gc,.bool go,.int .i64 gt,.string N] 244 3 _ rfl;simp only[PD] at d2 c8 O;have L:C.heap.size<(C.alloc (.cells #[.int .i64 gc,.bool go,.int .i64 gt,.string N] 244)).heap.size:=by simp
     have f0:C.heap.size≠w.heap.size+2:=by have:=(b2.o.kept k5).box.row.lt;omega
     have h0:=Kz (l2.o.kept K6);clear n p q t i v j x;clear z2 p1 z3 k5 k6 s0 s1 l2;cases go
     ·go_upto_region 16 with fail
      generalize z:C.alloc (.cells #[.int .i64 gc,.bool false,.int .i64 gt,.string N] 244)=A at M h0 d2 c8 O L K6⊢;clear z d2 O K6;have C5:w.heap.size+4<=A.heap.size:=by have:=M.o.abl;have:=M.o.abz;omega
      have m5:=(HW.o.OH).1;rw[<-g9.o] at m5;have s5:gc=0:=by have h2:=ES s h;rw[<-g9.o] at h2;exact h2
      obtain⟨m6,m7⟩:=m5 s5 rfl;dsimp only at m6 m7;clear m5 s5;have kE:K_ A (A.alloc (.cells #[] 9)):=ak _ _;have j0:Hid ((A.alloc (.cells #[] 9)).ownsRow A.heap.size 9 1 (.slice (some ⟨A.heap.size,0,none⟩) 0 0) 0 (([]:List Qw).map Value.string)):=World.ownsRow_made A #[] 0 (Nat.le_refl _) (Nat.zero_le _) rfl;have C6:r.texts.length<=100:=by omega
      have C7:=xI h;have s6:=M.o.txt;have j1:=Kz kE;obtain⟨ic,j2,m8,m9,n3⟩:=aN Tryz.fJ;clear kE;obtain⟨n,p,q,t,i,v,j⟩:=M.o.box.all;have x:=M.o.box.row.lt;obtain⟨_,s7⟩:=M.o.box.row.row.at (i:=6) (by omega);rcases (show xa=none\/∃ad,xa=some ad from by cases xa with|none=>exact .inl rfl|some c9=>exact .inr ⟨c9,rfl⟩) with rfl|⟨ad,rfl⟩
      ·have n4:r.texts=[]:=by
        cases z4:r.texts with
        | nil=>rfl
        | cons b9 ts=>exfalso;obtain⟨b,o,e,_⟩:=s6 0 (by rw[z4];simp);cases e
       have s8:=k0.o rfl;have s9:A.cell? ⟨w.heap.size+2,6,none⟩=some (.slice none 0 0):=by rw[j,n4,s8];rfl
       have H0:=Kz n4;clear j n4 s8;have j:=s9;clear s9;go_wp2_with (at_builtin;refine wpList_append_own_none _ rfl (.tmp 64) (.tmp 66) 25 rfl A.heap.size 9 ic 1 underlying25 j2 (.slice (some ⟨A.heap.size,0,none⟩) 0 0) 0 [] rfl j0.o rfl ?_)
       have f1:=j1.o;have j3:=j0;generalize z5:A.alloc (.cells #[] 9)=w8 at f1 j3⊢;clear z5;refine (Ee w8 l1 c3 h (by omega) (h0.o.kept f1)).mono ?_;rintro e w9 ⟨⟨h1,n5,rfl,h3⟩,k9⟩;have h4:=f1.trans k9;have h5:=Kz (ai j3.o k9);have n6:Hid (∀T u,((aJ h).map Value.string)[T]? =some u->w9.cell? ((⟨h1,0,none⟩:Addr).add T)=some u):=fun T u U=>by
        have hj:T<(aJ h).length:=by have:=(O_.1 U).1;simpa using this
        obtain⟨b,o,e,_,hc⟩:=h3 T hj;simp only[PN,Qt,and_true] at e;obtain⟨rfl,rfl⟩:=e;rw[PQ,hc];simp[hj] at U;simp[List.getD,hj,U]
       have n7:Hid (∀u∈(aJ h).map Value.string,u.oneCell'=true):=fun u U=>by obtain⟨c9,_,rfl⟩:=Pv.1 U;rfl
       have n8:=h4.size;clear k9 h3;clear n p q t i v j x;clear s7;go_upto_region 17 with (at_builtin;refine wpList_append_own _ rfl (.tmp 67) (.tmp 69) 25 rfl A.heap.size 9 ic _ 1 16 underlying25 j2 m8 m9 n3 rfl (by decide) (.slice (some ⟨A.heap.size,0,none⟩) 0 0) 0 (([]:List Qw).map Value.string) rfl h5.o ⟨h1,0,none⟩ (aJ h).length n5 ((aJ h).map Value.string) rfl (by simp) n6.o n7.o (by unfold maxLen;omega) (by omega) n8 ?_;intro v2 X d7 h6 _;have d8:=aC h4 (OU _) h5.o h6;have n9:=Kz d7;obtain⟨a2,a3,rfl⟩:=aG d7;have a6:=Kz (M.o.kept d8);have o0:=a6.o.box.all.2.2.2.2.2.2;have o1:=a6.o.box.row.lt;obtain⟨_,o2⟩:=a6.o.box.row.row.at (i:=6) (by omega);clear d7 h6)
       have hO:X.ownsRow A.heap.size 9 1 (.slice a2 ((aJ h).length) a3) ((aJ h).length) ((([]:List Qw)++aJ h).map Value.string):=by have b3:=n9.o;simpa using b3
       obtain⟨z6,z7,ev,d0,h7⟩:=eB.owned (n0:=D.heap.size) (c:=w.heap.size+2) hO (by omega);simp only[PO] at ev;obtain⟨rfl,Z,rfl⟩:=ev;have b4:Hid (NSt D.heap.size w (X.setCell ⟨w.heap.size+2,6,none⟩ (.slice a2 ((aJ h).length) a3)) Q y.cost (some ⟨F,G,none⟩) y.steps.length P {r with texts:=r.texts++aJ h} a2 a3):=a6.o.NY (by omega) (by simp[Q_.cells,H0.o]) (by rw[show ({r with texts:=r.texts++aJ h}:Q_).texts=[]++aJ h by simp[H0.o]];exact d0) h7;have o3:(X.setCell ⟨w.heap.size+2,6,none⟩ (.slice a2 ((aJ h).length) a3)).cell? ⟨C.heap.size,2,none⟩=some (.int .i64 gt):=by rw[Zj f0,d8.cell L];exact c8
       have o4:C.heap.size<(X.setCell ⟨w.heap.size+2,6,none⟩ (.slice a2 ((aJ h).length) a3)).heap.size:=by rw[size_setCell];exact OV L d8.size
       generalize z:X.setCell ⟨w.heap.size+2,6,none⟩ (.slice a2 ((aJ h).length) a3)=z8 at b4 o3 o4⊢;clear z o0 o1 o2 hO d0 h7 Z c8 L;obtain⟨n,p,q,t,i,v,j⟩:=b4.o.box.all;have x:=b4.o.box.row.lt;obtain⟨_,g4⟩:=b4.o.box.row.row.at (i:=4) (by omega);go_wp2
       go_meet
       refine⟨{r with texts:=r.texts++aJ h,at':=gt},a2,a3,b4.o.put (by omega) rfl rfl,(by unfold Xx;rw[b7.o];simp only;rw[Qh hv,c0.o,c7.o];simp only;rw[Qh d6,<-g9.o,Qh (by simp)]),m6,m7,lo,(by show r.Zq<20;omega),(by show (r.texts++aJ h).length<=200;rw[PM];omega),fun b9 ht=>?_⟩;rcases Pe.1 ht with ht | ht
       ·exact hgd.ts b9 ht
       ·obtain⟨c9,hx,rfl⟩:=rH ht;exact m3.o c9 hx
      ·have z9:Hid (∀T u,(r.texts.map Value.string)[T]? =some u->(A.alloc (.cells #[] 9)).cell? (ad.add T)=some u):=fun T u U=>by
        have hj:T<r.texts.length:=by have:=(O_.1 U).1;simpa using this
        obtain⟨b,o,e,hb,_,hc⟩:=s6 T hj;simp only[PN] at e;subst e;rw[PQ,j1.o.cell hb,hc];simp[hj] at U;simp[List.getD,hj,U]
       have A0:Hid (∀u∈r.texts.map Value.string,u.oneCell'=true):=fun u U=>by obtain⟨c9,_,rfl⟩:=Pv.1 U;rfl
       have A1:A.heap.size<=(A.alloc (.cells #[] 9)).heap.size:=j1.o.size;go_wp2_with (at_builtin;refine wpList_append_own _ rfl (.tmp 64) (.tmp 66) 25 rfl A.heap.size 9 ic _ 1 16 underlying25 j2 m8 m9 n3 rfl (by decide) (.slice (some ⟨A.heap.size,0,none⟩) 0 0) 0 [] rfl j0.o ad r.texts.length xc (r.texts.map Value.string) rfl (by simp) z9.o A0.o (by unfold maxLen;omega) (by omega) A1 ?_;intro q1 w8 j4 t8 _;rw[PD,List.nil_append] at j4;have f1:=aC j1.o (OU _) j0.o t8;have j3:=Kz j4;obtain⟨A2,A3,rfl⟩:=aG j4;clear j4 t8)
       refine (Ee w8 l1 c3 h (by omega) (h0.o.kept f1)).mono ?_;rintro e w9 ⟨⟨h1,n5,rfl,h3⟩,k9⟩;have h4:=f1.trans k9;have h5:=Kz (ai j3.o k9);have n6:Hid (∀T u,((aJ h).map Value.string)[T]? =some u->w9.cell? ((⟨h1,0,none⟩:Addr).add T)=some u):=fun T u U=>by
        have hj:T<(aJ h).length:=by have:=(O_.1 U).1;simpa using this
        obtain⟨b,o,e,_,hc⟩:=h3 T hj;simp only[PN,Qt,and_true] at e;obtain⟨rfl,rfl⟩:=e;rw[PQ,hc];simp[hj] at U;simp[List.getD,hj,U]
       have n7:Hid (∀u∈(aJ h).map Value.string,u.oneCell'=true):=fun u U=>by obtain⟨c9,_,rfl⟩:=Pv.1 U;rfl
       have n8:=h4.size;clear k9 h3;clear n p q t i v j x;clear s7;go_upto_region 17 with (at_builtin;refine wpList_append_own _ rfl (.tmp 67) (.tmp 69) 25 rfl A.heap.size 9 ic _ 1 16 underlying25 j2 m8 m9 n3 rfl (by decide) (.slice A2 r.texts.length A3) r.texts.length (r.texts.map Value.string) rfl h5.o ⟨h1,0,none⟩ (aJ h).length n5 ((aJ h).map Value.string) rfl (by simp) n6.o n7.o (by unfold maxLen;omega) (by omega) n8 ?_;intro v2 X d7 h6 _;have d8:=aC h4 (OU _) h5.o h6;have n9:=Kz d7;obtain⟨a2,a3,rfl⟩:=aG d7;have a6:=Kz (M.o.kept d8);have o0:=a6.o.box.all.2.2.2.2.2.2;have o1:=a6.o.box.row.lt;obtain⟨_,o2⟩:=a6.o.box.row.row.at (i:=6) (by omega);clear d7 h6)
       have hO:X.ownsRow A.heap.size 9 1 (.slice a2 (r.texts.length+ (aJ h).length) a3) (r.texts.length+ (aJ h).length) ((r.texts++aJ h).map Value.string):=by rw[Qm];exact n9.o
       obtain⟨z6,z7,ev,d0,h7⟩:=eB.owned (n0:=D.heap.size) (c:=w.heap.size+2) hO (by omega);simp only[PO] at ev;obtain⟨rfl,Z,rfl⟩:=ev;have b4:Hid (NSt D.heap.size w (X.setCell ⟨w.heap.size+2,6,none⟩ (.slice a2 (r.texts.length+ (aJ h).length) a3)) Q y.cost (some ⟨F,G,none⟩) y.steps.length P {r with texts:=r.texts++aJ h} a2 a3):=a6.o.NY (by omega) (by simp[Q_.cells]) (d0) h7;have o3:(X.setCell ⟨w.heap.size+2,6,none⟩ (.slice a2 (r.texts.length+ (aJ h).length) a3)).cell? ⟨C.heap.size,2,none⟩=some (.int .i64 gt):=by rw[Zj f0,d8.cell L];exact c8
       have o4:C.heap.size<(X.setCell ⟨w.heap.size+2,6,none⟩ (.slice a2 (r.texts.length+ (aJ h).length) a3)).heap.size:=by rw[size_setCell];exact OV L d8.size
       generalize z:X.setCell ⟨w.heap.size+2,6,none⟩ (.slice a2 (r.texts.length+ (aJ h).length) a3)=z8 at b4 o3 o4⊢;clear z o0 o1 o2 hO d0 h7 Z c8 L;obtain⟨n,p,q,t,i,v,j⟩:=b4.o.box.all;have x:=b4.o.box.row.lt;obtain⟨_,g4⟩:=b4.o.box.row.row.at (i:=4) (by omega);go_wp2
       go_meet
       refine⟨{r with texts:=r.texts++aJ h,at':=gt},a2,a3,b4.o.put (by omega) rfl rfl,(by unfold Xx;rw[b7.o];simp only;rw[Qh hv,c0.o,c7.o];simp only;rw[Qh d6,<-g9.o,Qh (by simp)]),m6,m7,lo,(by show r.Zq<20;omega),(by show (r.texts++aJ h).length<=200;rw[PM];omega),fun b9 ht=>?_⟩;rcases Pe.1 ht with ht | ht
       ·exact hgd.ts b9 ht
       ·obtain⟨c9,hx,rfl⟩:=rH ht;exact m3.o c9 hx
     ·go_upto_region 11 with fail
      generalize z:C.alloc (.cells #[.int .i64 gc,.bool true,.int .i64 gt,.string N] 244)=A at M h0 d2 c8 O L K6⊢;clear z d2 c8 h0 K6;obtain⟨n,p,q,t,i,v,j⟩:=M.o.box.all;have x:=M.o.box.row.lt;obtain⟨_,g5⟩:=M.o.box.row.row.at (i:=5) (by omega);go_upto_region 12 with fail
      have h8:Hid (NSt D.heap.size w (A.setCell ⟨w.heap.size+2,5,none⟩ (.int .i64 (r.Zq+1))) Q y.cost (some ⟨F,G,none⟩) y.steps.length P ({r with Zq:=r.Zq+1}) xa xc):=M.o.put (by omega) rfl rfl;have a4:(A.setCell ⟨w.heap.size+2,5,none⟩ (.int .i64 (r.Zq+1))).cell? ⟨C.heap.size,3,none⟩=some (.string N):=by rw[Zj f0];exact O
      have a5:C.heap.size<(A.setCell ⟨w.heap.size+2,5,none⟩ (.int .i64 (r.Zq+1))).heap.size:=by rw[size_setCell];exact L
      generalize z:A.setCell ⟨w.heap.size+2,5,none⟩ (.int .i64 (r.Zq+1))=w7 at h8 a4 a5⊢;clear z;clear n p q t i v j x;clear g5;clear O L;have O:=a4;have L:=a5;clear a4 a5;obtain⟨n,p,q,t,i,v,j⟩:=h8.o.box.all;have x:=h8.o.box.row.lt;obtain⟨_,f9⟩:=h8.o.box.row.row.at (i:=1) (by omega);go_upto_region 13 with fail
      have h9:Hid (NSt D.heap.size w (w7.setCell ⟨w.heap.size+2,1,none⟩ (.bool true)) Q y.cost (some ⟨F,G,none⟩) y.steps.length P ({r with Zq:=r.Zq+1,over:=true}) xa xc):=h8.o.put (by omega) rfl rfl;have a4:(w7.setCell ⟨w.heap.size+2,1,none⟩ (.bool true)).cell? ⟨C.heap.size,3,none⟩=some (.string N):=by rw[Zj f0];exact O
      have a5:C.heap.size<(w7.setCell ⟨w.heap.size+2,1,none⟩ (.bool true)).heap.size:=by rw[size_setCell];exact L
      generalize z:w7.setCell ⟨w.heap.size+2,1,none⟩ (.bool true)=w8 at h9 a4 a5⊢;clear z;clear n p q t i v j x;clear f9;clear O L;have O:=a4;have L:=a5;clear a4 a5;obtain⟨n,p,q,t,i,v,j⟩:=h9.o.box.all;have x:=h9.o.box.row.lt;obtain⟨_,g1⟩:=h9.o.box.row.row.at (i:=2) (by omega);go_upto_region 14 with fail
      have i0:Hid (NSt D.heap.size w (w8.setCell ⟨w.heap.size+2,2,none⟩ (.bool true)) Q y.cost (some ⟨F,G,none⟩) y.steps.length P ({r with Zq:=r.Zq+1,over:=true,fail:=true}) xa xc):=h9.o.put (by omega) rfl rfl;have a4:(w8.setCell ⟨w.heap.size+2,2,none⟩ (.bool true)).cell? ⟨C.heap.size,3,none⟩=some (.string N):=by rw[Zj f0];exact O
      have a5:C.heap.size<(w8.setCell ⟨w.heap.size+2,2,none⟩ (.bool true)).heap.size:=by rw[size_setCell];exact L
      generalize z:w8.setCell ⟨w.heap.size+2,2,none⟩ (.bool true)=w9 at i0 a4 a5⊢;clear z;clear n p q t i v j x;clear g1;clear O L;have O:=a4;have L:=a5;clear a4 a5;obtain⟨n,p,q,t,i,v,j⟩:=i0.o.box.all;have x:=i0.o.box.row.lt;obtain⟨_,g3⟩:=i0.o.box.row.row.at (i:=3) (by omega);go_upto_region 15 with fail
      have a6:Hid (NSt D.heap.size w (w9.setCell ⟨w.heap.size+2,3,none⟩ (.string N)) Q y.cost (some ⟨F,G,none⟩) y.steps.length P ({r with Zq:=r.Zq+1,over:=true,fail:=true,text:=N}) xa xc):=i0.o.put (by omega) rfl rfl;have a4:(w9.setCell ⟨w.heap.size+2,3,none⟩ (.string N)).cell? ⟨C.heap.size,3,none⟩=some (.string N):=by rw[Zj f0];exact O
      have a5:C.heap.size<(w9.setCell ⟨w.heap.size+2,3,none⟩ (.string N)).heap.size:=by rw[size_setCell];exact L
      generalize z:w9.setCell ⟨w.heap.size+2,3,none⟩ (.string N)=X at a6 a4 a5⊢;clear z;clear n p q t i v j x;clear g3;clear O L;have O:=a4;have L:=a5;clear a4 a5;obtain⟨I,V⟩:=ag (Q_.cells ({r with Zq:=r.Zq+1,over:=true,fail:=true,text:=N}) xa xc);have Z:I.length=7:=by rw[V];rfl
      have l3:Hid (I.toArray.all (·.oneCell')=true):=by show _=_;rw[V];exact all_oneCell_toArray (by simp[Q_.cells,Value.oneCell'])
      have l4:Hid (X.rangeAt (w.heap.size+2) 0 I):=by show World.rangeAt _ _ _ _;rw[V];exact a6.o.box.rng
      have x:=a6.o.box.row.lt;have l5:Hid ((prog.info? 103).map (·.size)=some I.toArray.size):=by show _=_;rw[Tryz.nI];simp[Z]
      have g6:Hid ((prog.info? 103).map (·.size)=some I.length):=by show _=_;rw[Tryz.nI,Z]
      have g7:=Kz (a6.o.kept ((K_.refl X).alloc (.cells #[] 9)));have g8:Hid ((X.alloc (.cells #[] 9)).there (w.heap.size+3) 0 I.toArray.size):=by show World.there _ _ _ _;simpa[Z] using g7.o.res.row.there (o:=0) (m:=7) (OU _)
      have⟨l6,y8⟩:=aD V Z;clear V Z;go_wp2_with (first | (refine wpList_load_mid rfl 103 _ rfl (w.heap.size+2) 0 rfl I _ l4.o underlying103 rfl g6.o ?_) | (refine wpList_store_mid rfl 103 _ _ rfl (w.heap.size+3) 0 I.toArray rfl rfl g8.o l5.o l3.o ?_;rw[List.toList_toArray]))
      have hR:=OY (X.alloc (.cells #[] 9)) (w.heap.size+3) 0 I (by have:=g8.o;simpa using this);refine bS I _ _ results140 rfl hR underlying103 rfl g6.o rfl rfl ?_;have l7:=l6.o;subst l7;exact g7.o.ends (by unfold Xx;rw[b7.o];simp only;rw[Qh hv,c0.o,c7.o];simp only;rw[Qh d6,<-g9.o,Qg rfl]) (asks:=[]) (fun y9 hi=>by simp at hi) rfl rfl
  case rest=>
   clear n p q t i v j x d4 j9 o7 lo q3 tl i4 e6;obtain⟨f,a9,b1,t9,v0,C8,C9,x7,D0,D1,v1⟩:=hcut;have⟨HM,v3,A4⟩:=bA t9 v0 v1;clear t9 v0 v1;obtain⟨wM,rfl⟩:=ag wc;go_upto_region 18 with fail
   obtain⟨n,p,q,t,i,v,j⟩:=HM.o.box.all;have x:=HM.o.box.row.lt;obtain⟨_,g5⟩:=HM.o.box.row.row.at (i:=5) (by omega);go_upto_region 19 with fail
   have c5:Hid (NSt D.heap.size w (wM.setCell ⟨w.heap.size+2,5,none⟩ (.int .i64 (f.Zq+1))) Q y.cost na y.steps.length P ({f with Zq:=f.Zq+1}) a9 b1):=HM.o.put (by omega) rfl rfl;generalize z:wM.setCell ⟨w.heap.size+2,5,none⟩ (.int .i64 (f.Zq+1))=B at c5  ⊢;clear z;clear n p q t i v j x;clear g5;obtain⟨E,c6⟩:∃E:Nat,f.at'= (E:Int):=⟨f.at'.toNat,by omega⟩;have e7:E<y.steps.length:=by omega
   have x8:(E:Int)<(y.steps.length:Int):=by omega
   obtain⟨F,G,x9,rfl,c4,J,W,Y,ac,cc,rfl,e8,_,_⟩:=(Steps.kept p7.o (i6.o.trans c5.o.kw)) E e7;obtain⟨s,hs⟩:=ag (y.steps.getD E Xq.zero);rw[<-hs] at J e8;have t0:=J 0 _ rfl;have t1:=J 1 _ rfl;have t2:=J 2 _ rfl;have t3:=J 3 _ rfl;have t4:=J 4 _ rfl;have t5:=J 5 _ rfl;have t6:=J 6 _ rfl;have t7:=J 7 _ rfl;rw[PR] at t0;have v4:Hid (Strs D W s.asks):=by
    obtain⟨D2,D3,D4,O,_,v8,D5,D6,D7,D8,rfl,d0,_⟩:=p7.o E e7;simp only[PN,Qt,and_true] at O;obtain⟨rfl,rfl⟩:=O;rw[<-hs] at v8 d0;have H:=((i6.o.trans c5.o.kw).cell (by assumption)).trans (v8 0 _ rfl);rw[PR,t0] at H;simp only[PN,PO] at H;obtain⟨rfl,_,_⟩:=H;exact d0
   have c0:Hid (stepOf ⟨y.cost,y.steps⟩ f.at'=s):=by show _=_;unfold stepOf;rw[c6,hs];rfl
   have f7:s∈y.steps:=by rw[hs];simp[List.getD,e7]
   have e9:y∈Kq:=by rw[HY.o];simp[List.getD,hk]
   have A5:=(o6 y e9).each s f7;have q5:=(j8 y e9 s f7).1;have p1:=c5.o.a1;have pz:=c5.o.abz;obtain⟨n,p,q,t,i,v,j⟩:=c5.o.box.all;have x:=c5.o.box.row.lt;dsimp only at i;rw[c6] at i;clear J e8 hs c6;go_upto_region 20 with fail
   have kS:K_ B (B.alloc (.cells #[.slice W s.asks.length Y,.int .i64 s.on,.slice ac s.cases.length cc,.int .i64 s.els,.int .i64 s.fall,.bool s.fin,.bool s.bad,.string s.give] 172)):=ak _ _;have a7:=Kz (c5.o.kept kS);have R:=X_ B #[.slice W s.asks.length Y,.int .i64 s.on,.slice ac s.cases.length cc,.int .i64 s.els,.int .i64 s.fall,.bool s.fin,.bool s.bad,.string s.give] 172 0 _ rfl;have v5:=X_ B #[.slice W s.asks.length Y,.int .i64 s.on,.slice ac s.cases.length cc,.int .i64 s.els,.int .i64 s.fall,.bool s.fin,.bool s.bad,.string s.give] 172 5 _ rfl;have v6:=X_ B #[.slice W s.asks.length Y,.int .i64 s.on,.slice ac s.cases.length cc,.int .i64 s.els,.int .i64 s.fall,.bool s.fin,.bool s.bad,.string s.give] 172 6 _ rfl;have v7:=X_ B #[.slice W s.asks.length Y,.int .i64 s.on,.slice ac s.cases.length cc,.int .i64 s.els,.int .i64 s.fall,.bool s.fin,.bool s.bad,.string s.give] 172 7 _ rfl;simp only[PD] at R v5 v6 v7;have S:B.heap.size<(B.alloc (.cells #[.slice W s.asks.length Y,.int .i64 s.on,.slice ac s.cases.length cc,.int .i64 s.els,.int .i64 s.fall,.bool s.fin,.bool s.bad,.string s.give] 172)).heap.size:=by simp
   have d9:B.heap.size≠w.heap.size+2:=by omega
   have a8:B.heap.size≠w.heap.size+3:=by have:=c5.o.res.lt;omega
   generalize z:B.alloc (.cells #[.slice W s.asks.length Y,.int .i64 s.on,.slice ac s.cases.length cc,.int .i64 s.els,.int .i64 s.fall,.bool s.fin,.bool s.bad,.string s.give] 172)=wQ at a7 R v5 v6 v7 S⊢;clear z kS t0 t1 t2 t3 t4 t5 t6 t7 p1 pz;clear n p q t i v j x;have e0:=S;have e1:=S;cases j5:s.fin
   ·rw[j5] at v5;obtain⟨n,p,q,t,i,v,j⟩:=a7.o.box.all;have c:w.heap.size+2≠w.heap.size+3:=by omega
    have i1:Hid (∀w',K_ wQ w'->w'.cell? ⟨B.heap.size,0,none⟩=some (.slice W s.asks.length Y)/\w'.cell? ⟨w.heap.size+2,0,none⟩=some (.string ({f with Zq:=f.Zq+1}).name)/\w'.cell? ⟨w.heap.size+2,1,none⟩=some (.bool ({f with Zq:=f.Zq+1}).over)/\w'.cell? ⟨w.heap.size+2,2,none⟩=some (.bool ({f with Zq:=f.Zq+1}).fail)/\w'.cell? ⟨w.heap.size+2,3,none⟩=some (.string ({f with Zq:=f.Zq+1}).text)/\w'.cell? ⟨w.heap.size+2,4,none⟩=some (.int .i64 ({f with Zq:=f.Zq+1}).at')/\w'.cell? ⟨w.heap.size+2,5,none⟩=some (.int .i64 ({f with Zq:=f.Zq+1}).Zq)/\w'.cell? ⟨w.heap.size+2,6,none⟩=some (.slice a9 ({f with Zq:=f.Zq+1}).texts.length b1)):=fun w' K=>⟨(K.cell S).trans R,(K.cell a7.o.box.row.lt).trans n,(K.cell a7.o.box.row.lt).trans p,(K.cell a7.o.box.row.lt).trans q,(K.cell a7.o.box.row.lt).trans t,(K.cell a7.o.box.row.lt).trans i,(K.cell a7.o.box.row.lt).trans v,(K.cell a7.o.box.row.lt).trans j⟩
    go_upto_region 24 with fail
    refine jI 4 i1.o (bB wQ) (fun g=>?_);have HL:=Kz (a7.o.kept (bB wQ));generalize f8:wQ.drew=wd at g HL⊢;clear f8 n p q t i v j i1;refine ae 0 g ?_;refine ae 1 g ?_;refine ae 2 g ?_;obtain⟨⟨⟨_,x0⟩,k7⟩,⟨⟨_,x1⟩,k8⟩,⟨⟨_,A6⟩,f2⟩,⟨⟨_,A7⟩,f3⟩,⟨⟨_,A8⟩,A9⟩,⟨⟨_,B0⟩,f5⟩,⟨_,B1⟩,B2⟩:=HL.o.res.row.LV;have xz:=HL.o.res.lt;refine ay 3 (fun K k=>?_);go_simp
    refine k.out _ _ (fun _=>⟨(by rw[Zj a8,Zj a8,Zj a8,Zj a8,Zj a8,Zj a8,Zj a8];exact g.1),(by rw[Zj c,Zj c,Zj c,Zj c,Zj c,Zj c,Zj c];exact g.2.1),(by rw[Zj c,Zj c,Zj c,Zj c,Zj c,Zj c,Zj c];exact g.2.2.1),(by rw[Zj c,Zj c,Zj c,Zj c,Zj c,Zj c,Zj c];exact g.2.2.2.1),(by rw[Zj c,Zj c,Zj c,Zj c,Zj c,Zj c,Zj c];exact g.2.2.2.2.1),(by rw[Zj c,Zj c,Zj c,Zj c,Zj c,Zj c,Zj c];exact g.2.2.2.2.2.1),(by rw[Zj c,Zj c,Zj c,Zj c,Zj c,Zj c,Zj c];exact g.2.2.2.2.2.2.1),(by rw[Zj c,Zj c,Zj c,Zj c,Zj c,Zj c,Zj c];exact g.2.2.2.2.2.2.2)⟩) ?_;clear k K;try simp only
    refine ay 4 (fun K k=>?_);go_simp
    refine k.out _ _ (fun b3=>Qi rfl b3) ?_;clear k K;try simp only[Act.put,upA,upB,upC]
    refine az ?_;go_wp2_with fail
    have hR:=OY wd (w.heap.size+3) 0 (Q_.cells ({f with Zq:=f.Zq+1}) a9 b1) (HL.o.res.row.there (o:=0) (m:=7) (OU _));refine bS (Q_.cells ({f with Zq:=f.Zq+1}) a9 b1) _ _ results140 rfl hR underlying103 rfl Tryz.nI rfl rfl ?_;exact HL.o.ends (by rw[v3.o];unfold gu;rw[c0.o,j5];rfl) (asks:=s.asks) (eB.old v4.o (i6.o.trans HL.o.kw) (OU _)) rfl rfl
   ·rw[j5] at v5;go_upto_region 21 with fail
    obtain⟨n,p,q,t,i,v,j⟩:=a7.o.box.all;have x:=a7.o.box.row.lt;obtain⟨_,f9⟩:=a7.o.box.row.row.at (i:=1) (by omega);go_upto_region 22 with fail
    have i2:Hid (NSt D.heap.size w (wQ.setCell ⟨w.heap.size+2,1,none⟩ (.bool true)) Q y.cost (some ⟨F,G,none⟩) y.steps.length P ({f with Zq:=f.Zq+1,over:=true}) a9 b1):=a7.o.put (by omega) rfl rfl;have e2:(wQ.setCell ⟨w.heap.size+2,1,none⟩ (.bool true)).cell? ⟨B.heap.size,6,none⟩=some (.bool s.bad):=by rw[Zj d9];exact v6
    have e3:B.heap.size<(wQ.setCell ⟨w.heap.size+2,1,none⟩ (.bool true)).heap.size:=by rw[size_setCell];exact e0
    have e4:(wQ.setCell ⟨w.heap.size+2,1,none⟩ (.bool true)).cell? ⟨B.heap.size,7,none⟩=some (.string s.give):=by rw[Zj d9];exact v7
    have e5:B.heap.size<(wQ.setCell ⟨w.heap.size+2,1,none⟩ (.bool true)).heap.size:=by rw[size_setCell];exact e1
    have b5:(wQ.setCell ⟨w.heap.size+2,1,none⟩ (.bool true)).cell? ⟨B.heap.size,0,none⟩=some (.slice W s.asks.length Y):=by rw[Zj d9];exact R
    have b6:B.heap.size<(wQ.setCell ⟨w.heap.size+2,1,none⟩ (.bool true)).heap.size:=by rw[size_setCell];exact S
    generalize z:wQ.setCell ⟨w.heap.size+2,1,none⟩ (.bool true)=wR at i2 e2 e3 e4 e5 b5 b6⊢;clear z;clear n p q t i v j x;clear f9;clear v6 e0;have v6:=e2;have e0:=e3;clear e2 e3;clear v7 e1;have v7:=e4;have e1:=e5;clear e4 e5;clear R S;have R:=b5;have S:=b6;clear b5 b6;obtain⟨n,p,q,t,i,v,j⟩:=i2.o.box.all;have x:=i2.o.box.row.lt;obtain⟨_,g1⟩:=i2.o.box.row.row.at (i:=2) (by omega);go_upto_region 23 with fail
    have i3:Hid (NSt D.heap.size w (wR.setCell ⟨w.heap.size+2,2,none⟩ (.bool s.bad)) Q y.cost (some ⟨F,G,none⟩) y.steps.length P ({f with Zq:=f.Zq+1,over:=true,fail:=s.bad}) a9 b1):=i2.o.put (by omega) rfl rfl;have e2:(wR.setCell ⟨w.heap.size+2,2,none⟩ (.bool s.bad)).cell? ⟨B.heap.size,6,none⟩=some (.bool s.bad):=by rw[Zj d9];exact v6
    have e3:B.heap.size<(wR.setCell ⟨w.heap.size+2,2,none⟩ (.bool s.bad)).heap.size:=by rw[size_setCell];exact e0
    have e4:(wR.setCell ⟨w.heap.size+2,2,none⟩ (.bool s.bad)).cell? ⟨B.heap.size,7,none⟩=some (.string s.give):=by rw[Zj d9];exact v7
    have e5:B.heap.size<(wR.setCell ⟨w.heap.size+2,2,none⟩ (.bool s.bad)).heap.size:=by rw[size_setCell];exact e1
    have b5:(wR.setCell ⟨w.heap.size+2,2,none⟩ (.bool s.bad)).cell? ⟨B.heap.size,0,none⟩=some (.slice W s.asks.length Y):=by rw[Zj d9];exact R
    have b6:B.heap.size<(wR.setCell ⟨w.heap.size+2,2,none⟩ (.bool s.bad)).heap.size:=by rw[size_setCell];exact S
    generalize z:wR.setCell ⟨w.heap.size+2,2,none⟩ (.bool s.bad)=wS at i3 e2 e3 e4 e5 b5 b6⊢;clear z;clear n p q t i v j x;clear g1;clear v6 e0;have v6:=e2;have e0:=e3;clear e2 e3;clear v7 e1;have v7:=e4;have e1:=e5;clear e4 e5;clear R S;have R:=b5;have S:=b6;clear b5 b6;obtain⟨n,p,q,t,i,v,j⟩:=i3.o.box.all;have x:=i3.o.box.row.lt;have B3:s.give.size<=maxLen:=A5.give;have B4:f.texts.length<=maxLen:=by unfold maxLen;omega
    have v9:∀b9∈f.texts,b9.size<=maxLen:=fun b9 ht=>by have:=A4.o b9 ht;unfold maxLen;omega
    go_wp2_with fail
    refine (xx wS s.give a9 b1 f.texts B3 B4 v9 i3.o.txt.strs).mono ?_;rintro e wT ⟨rfl,kT⟩;have j6:=Kz (i3.o.kept kT);have w0:=(kT.cell S).trans R;have w1:=OV S kT.size;clear R S v6 v7 e0 e1 kT v9;clear n p q t i v j x;have R:=w0;have S:=w1;clear w0 w1;obtain⟨fb,o5⟩:=ag (oO s.give f.texts);rw[<-o5];have B5:=Kz o5;clear o5;obtain⟨n,p,q,t,i,v,j⟩:=j6.o.box.all;have x:=j6.o.box.row.lt;obtain⟨_,g3⟩:=j6.o.box.row.row.at (i:=3) (by omega);go_upto_region 24 with fail
    have c1:Hid (NSt D.heap.size w (wT.setCell ⟨w.heap.size+2,3,none⟩ (.string fb)) Q y.cost (some ⟨F,G,none⟩) y.steps.length P ({f with Zq:=f.Zq+1,over:=true,fail:=s.bad,text:=fb}) a9 b1):=j6.o.put (by omega) rfl rfl;have b5:(wT.setCell ⟨w.heap.size+2,3,none⟩ (.string fb)).cell? ⟨B.heap.size,0,none⟩=some (.slice W s.asks.length Y):=by rw[Zj d9];exact R
    have b6:B.heap.size<(wT.setCell ⟨w.heap.size+2,3,none⟩ (.string fb)).heap.size:=by rw[size_setCell];exact S
    generalize z:wT.setCell ⟨w.heap.size+2,3,none⟩ (.string fb)=wU at c1 b5 b6⊢;clear z;clear n p q t i v j x;clear g3;clear R S;have R:=b5;have S:=b6;clear b5 b6;obtain⟨n,p,q,t,i,v,j⟩:=c1.o.box.all;have c:w.heap.size+2≠w.heap.size+3:=by omega
    have i1:Hid (∀w',K_ wU w'->w'.cell? ⟨B.heap.size,0,none⟩=some (.slice W s.asks.length Y)/\w'.cell? ⟨w.heap.size+2,0,none⟩=some (.string ({f with Zq:=f.Zq+1,over:=true,fail:=s.bad,text:=fb}).name)/\w'.cell? ⟨w.heap.size+2,1,none⟩=some (.bool ({f with Zq:=f.Zq+1,over:=true,fail:=s.bad,text:=fb}).over)/\w'.cell? ⟨w.heap.size+2,2,none⟩=some (.bool ({f with Zq:=f.Zq+1,over:=true,fail:=s.bad,text:=fb}).fail)/\w'.cell? ⟨w.heap.size+2,3,none⟩=some (.string ({f with Zq:=f.Zq+1,over:=true,fail:=s.bad,text:=fb}).text)/\w'.cell? ⟨w.heap.size+2,4,none⟩=some (.int .i64 ({f with Zq:=f.Zq+1,over:=true,fail:=s.bad,text:=fb}).at')/\w'.cell? ⟨w.heap.size+2,5,none⟩=some (.int .i64 ({f with Zq:=f.Zq+1,over:=true,fail:=s.bad,text:=fb}).Zq)/\w'.cell? ⟨w.heap.size+2,6,none⟩=some (.slice a9 ({f with Zq:=f.Zq+1,over:=true,fail:=s.bad,text:=fb}).texts.length b1)):=fun w' K=>⟨(K.cell S).trans R,(K.cell c1.o.box.row.lt).trans n,(K.cell c1.o.box.row.lt).trans p,(K.cell c1.o.box.row.lt).trans q,(K.cell c1.o.box.row.lt).trans t,(K.cell c1.o.box.row.lt).trans i,(K.cell c1.o.box.row.lt).trans v,(K.cell c1.o.box.row.lt).trans j⟩
    go_upto_region 24 with fail
    refine jI 4 i1.o (bB wU) (fun g=>?_);have HL:=Kz (c1.o.kept (bB wU));generalize f8:wU.drew=wd at g HL⊢;clear f8 n p q t i v j i1;refine ae 0 g ?_;refine ae 1 g ?_;refine ae 2 g ?_;obtain⟨⟨⟨_,x0⟩,k7⟩,⟨⟨_,x1⟩,k8⟩,⟨⟨_,A6⟩,f2⟩,⟨⟨_,A7⟩,f3⟩,⟨⟨_,A8⟩,A9⟩,⟨⟨_,B0⟩,f5⟩,⟨_,B1⟩,B2⟩:=HL.o.res.row.LV;have xz:=HL.o.res.lt;refine ay 3 (fun K k=>?_);go_simp
    refine k.out _ _ (fun _=>⟨(by rw[Zj a8,Zj a8,Zj a8,Zj a8,Zj a8,Zj a8,Zj a8];exact g.1),(by rw[Zj c,Zj c,Zj c,Zj c,Zj c,Zj c,Zj c];exact g.2.1),(by rw[Zj c,Zj c,Zj c,Zj c,Zj c,Zj c,Zj c];exact g.2.2.1),(by rw[Zj c,Zj c,Zj c,Zj c,Zj c,Zj c,Zj c];exact g.2.2.2.1),(by rw[Zj c,Zj c,Zj c,Zj c,Zj c,Zj c,Zj c];exact g.2.2.2.2.1),(by rw[Zj c,Zj c,Zj c,Zj c,Zj c,Zj c,Zj c];exact g.2.2.2.2.2.1),(by rw[Zj c,Zj c,Zj c,Zj c,Zj c,Zj c,Zj c];exact g.2.2.2.2.2.2.1),(by rw[Zj c,Zj c,Zj c,Zj c,Zj c,Zj c,Zj c];exact g.2.2.2.2.2.2.2)⟩) ?_;clear k K;try simp only
    refine ay 4 (fun K k=>?_);go_simp
    refine k.out _ _ (fun b3=>Qi rfl b3) ?_;clear k K;try simp only[Act.put,upA,upB,upC]
    refine az ?_;go_wp2_with fail
    have hR:=OY wd (w.heap.size+3) 0 (Q_.cells ({f with Zq:=f.Zq+1,over:=true,fail:=s.bad,text:=fb}) a9 b1) (HL.o.res.row.there (o:=0) (m:=7) (OU _));refine bS (Q_.cells ({f with Zq:=f.Zq+1,over:=true,fail:=s.bad,text:=fb}) a9 b1) _ _ results140 rfl hR underlying103 rfl Tryz.nI rfl rfl ?_;exact HL.o.ends (by rw[v3.o];unfold gu;rw[c0.o,j5,B5.o];rfl) (asks:=s.asks) (eB.old v4.o (i6.o.trans HL.o.kw) (OU _)) rfl rfl
