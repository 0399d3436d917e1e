import Derived.Test.YtgnkgfjmbmcfcaaGreatDoorKXSame3
import Derived.Test.YtgnkgfjmbmcfcaaGreatDoorKXNext
set_option maxRecDepth 100000
set_option maxHeartbeats 25600000
namespace Go.Proofs.YtgnkgfjmbmcfcaaGreatDoor
open Go.RowKit Go.Proofs.Tryz
def lm(w:Qy)(nb:Nat)(a:Qx)(l:List Qw):Prop:=∀i,i<l.length->∃b o,a=some ⟨b,o,none⟩/\b<w.heap.size/\b≠nb/\w.cell? ⟨b,o+i,none⟩=some (.string (l.getD i ByteArray.empty))
variable {l : List Qw} {a : Qx} {w w' : Qy}
theorem lm.new(h:Strs w a l)(k:K_ w w'):lm w' w.heap.size a l:=fun i c=>by
 obtain⟨d,o,e,b,f⟩:=h i c;exact⟨d,o,e,OV b k.size,by omega,(k.cell b).trans f⟩
variable {nb : Nat}
theorem lm.OC{n0 c:Nat}(h:eB n0 w c a l)(j:n0<=nb)(h2:nb<c+2):lm w nb a l:=fun i d=>by
 obtain⟨b,o,e,f,k,g⟩:=h i d;exact⟨b,o,e,f,by omega,g⟩
theorem lm.Nn :∀(vs:List QA) (p:Nat) {w:Qy},lm w nb a l->lm (w.setCells nb p vs) nb a l
 | [],_,_,h=>h
 | v :: r,p,w,h=>by
  rw[World.setCells];refine lm.Nn r (p+1) fun i c=>?_
  obtain⟨d,o,e,f,b,g⟩:=h i c;exact⟨d,o,e,by rw[size_setCell];exact f,b,by rw[Zj b];exact g⟩
theorem lm.sets(h:lm w nb a l)(vs:List QA)(p:Nat):Strs (w.setCells nb p vs) a l:=fun i c=>by
 obtain⟨b,o,e,d,_,f⟩:=lm.Nn vs p h i c;exact⟨b,o,e,d,f⟩
variable {b n : Nat} {t : TypeId}
theorem aL.sets :∀(vs:List QA) (p:Nat) {w:Qy},aL w b t n->aL (w.setCells b p vs) b t n
 | [],_,_,h=>h
 | v :: r,p,_,h=>by rw[World.setCells];exact aL.sets r (p+1) (h.set v)
theorem og.laid(h:aL w nb 103 7){q:Q_}{a:Qx}{b:Nat}:og (w.setCells nb 0 (q.cells a b)) nb q a b:=
 ⟨aL.sets _ _ h,OY w nb 0 (q.cells a b) (h.row.there (o:=0) (m:=7) (OU _))⟩
variable {W : aZ} {σ : Env} {r : Q_}
theorem IP :(Xx W σ r).2=[]\/∃A,W r.name=some A/\(Xx W σ r).2= (stepOf A (Xx W σ r).1.at').asks:=by
 unfold Xx;cases d:W r.name with
 | none=>exact .inl rfl
 | some A=>
  simp only;by_cases a:r.Zq=0
  ·rw[Qg a];refine .inr ⟨A,rfl, ?_⟩;unfold gu
   split <;> rfl
  ·rw[Qh a];cases Yz W σ (stepOf A r.at').asks with
   | none=>exact .inl rfl
   | some xs=>
    simp only;by_cases b:r.Zq=20
    ·rw[Qg b];exact .inl rfl
    ·rw[Qh b];by_cases c:(fq (stepOf A r.at') xs).over=true
     ·rw[Qg c];exact .inl rfl
     ·rw[Qh c];refine .inr ⟨A,rfl, ?_⟩;unfold gu
      split <;> rfl
theorem zH{Kq:List Qz}(b:a_ (Kk Kq))(d:iD Kq σ)(h:r.Good Kq)(f:bL (Kk Kq) σ r):(Xx (Kk Kq) σ r).2.length<=5:=by
 rcases IP (W:=Kk Kq) (σ:=σ) (r:=r) with e|⟨A,c,e⟩
 ·rw[e];exact OW _
 ·obtain⟨j,a,g,i⟩:=(fM b d h f).act;rw[fe] at a;rw[c] at a;cases a;rw[e];exact (jM (b _ _ c).1 g i).1
theorem MI(w:Qy)(a:Qx)(cap:Nat)(Kq:List Qz)(A B rc:Nat)(j:List Qw)(d:Qx)(dc:Nat)(l:List Q_)(name:Qw)(r:Q_)(m0:Kq.length<=1000)(m2:l.length<=900)(e9:kY Kq)(c6:a_ (Kk Kq))(j0:∀y∈Kq,y.Fits)(j1:j.length<=10)
  (a5:dU Kq l) (hr:Qq l name=some r) (c7:bL (Kk Kq) (Qq l) r) (hN:bJ w a Kq) (hS:gD w d l) (hR:Strs w (some ⟨A,B,none⟩) j):
  Calls prog 99 #[.agg #[.slice a Kq.length cap],.agg #[.slice (some ⟨A,B,none⟩) j.length rc,.slice d l.length dc],.string name] w fun e w'=>ry j (doL (Kk Kq) l r) w w' e:=by
 obtain⟨k,hk,c8⟩:∃k,k<l.length/\l.getD k Q_.zero=r:=by
  obtain⟨k,D,h2⟩:=Ph (bN hr).1;exact⟨k,D,by simp only[List.getD,OZ D,Ql,h2]⟩
 have c9:=a5.good r (bN hr).1;have d0:=a5.env;have d1:l.length<=1048576:=by omega
 have d2:Kq.length<=1048576:=by omega
 obtain⟨b,o,xa,xc,rfl,S,M,d3,f0⟩:=hS k hk;rw[c8] at M d3;have j2:=Kz f0;clear f0;obtain⟨s,T⟩:=ag (((w.alloc (.cells #[.slice a Kq.length cap] 37)).alloc (.cells #[.slice (some ⟨A,B,none⟩) j.length rc,.slice (some ⟨b,o,none⟩) l.length dc] 53)).alloc (.cells #[.slice none 0 0,.slice none 0 0] 53));have F:K_ w s:=by rw[T];exact ((ak _ _).alloc _).alloc _
 have j3:s.heap.size=w.heap.size+3:=by rw[T];simp
 have Y:s.cell? ⟨w.heap.size,0,none⟩=some (.slice a Kq.length cap):=by rw[T,K_.cell (w:=w.alloc (.cells #[.slice a Kq.length cap] 37)) ((ak _ _).alloc _) (by simp)];exact X_ w _ _ 0 _ rfl
 have N:s.cell? ⟨w.heap.size+1,0,none⟩=some (.slice (some ⟨A,B,none⟩) j.length rc):=by have:=X_ (w.alloc (.cells #[.slice a Kq.length cap] 37)) #[.slice (some ⟨A,B,none⟩) j.length rc,.slice (some ⟨b,o,none⟩) l.length dc] 53 0 _ rfl;rw[PL] at this;rw[T,K_.cell (w:=(w.alloc (.cells #[.slice a Kq.length cap] 37)).alloc (.cells #[.slice (some ⟨A,B,none⟩) j.length rc,.slice (some ⟨b,o,none⟩) l.length dc] 53)) (ak _ _) (by simp)];exact this
 have Z:s.cell? ⟨w.heap.size+1,1,none⟩=some (.slice (some ⟨b,o,none⟩) l.length dc):=by have:=X_ (w.alloc (.cells #[.slice a Kq.length cap] 37)) #[.slice (some ⟨A,B,none⟩) j.length rc,.slice (some ⟨b,o,none⟩) l.length dc] 53 1 _ rfl;rw[PL] at this;rw[T,K_.cell (w:=(w.alloc (.cells #[.slice a Kq.length cap] 37)).alloc (.cells #[.slice (some ⟨A,B,none⟩) j.length rc,.slice (some ⟨b,o,none⟩) l.length dc] 53)) (ak _ _) (by simp)];exact this
 have f2:Hid (aL s (w.heap.size+1+1) 53 2):=by
  have D:=aL.made ((w.alloc (.cells #[.slice a Kq.length cap] 37)).alloc (.cells #[.slice (some ⟨A,B,none⟩) j.length rc,.slice (some ⟨b,o,none⟩) l.length dc] 53)) #[.slice none 0 0,.slice none 0 0] 53;simp only[PL] at D;rw[T];exact D
 have z0:w.heap.size<s.heap.size:=by omega
 have z1:w.heap.size+1<s.heap.size:=by omega
 have a0:b<s.heap.size:=OV S F.size;have t0:s.cell? ⟨b,o+k*7,none⟩=some (.string r.name):=(F.cell S).trans (M 0 _ rfl);have t1:s.cell? ⟨b,o+k*7+1,none⟩=some (.bool r.over):=(F.cell S).trans (M 1 _ rfl);have t2:s.cell? ⟨b,o+k*7+2,none⟩=some (.bool r.fail):=(F.cell S).trans (M 2 _ rfl);have t3:s.cell? ⟨b,o+k*7+3,none⟩=some (.string r.text):=(F.cell S).trans (M 3 _ rfl);have t4:s.cell? ⟨b,o+k*7+4,none⟩=some (.int .i64 r.at'):=(F.cell S).trans (M 4 _ rfl);have t5:s.cell? ⟨b,o+k*7+5,none⟩=some (.int .i64 r.Zq):=(F.cell S).trans (M 5 _ rfl);have t6:s.cell? ⟨b,o+k*7+6,none⟩=some (.slice xa r.texts.length xc):=(F.cell S).trans (M 6 _ rfl);have E:Hid (∀w',K_ s w'->w'.cell? ⟨w.heap.size,0,none⟩=some (.slice a Kq.length cap)/\w'.cell? ⟨w.heap.size+1,0,none⟩=some (.slice (some ⟨A,B,none⟩) j.length rc)/\w'.cell? ⟨w.heap.size+1,1,none⟩=some (.slice (some ⟨b,o,none⟩) l.length dc)/\w'.cell? ⟨b,o+k*7,none⟩=some (.string r.name)/\w'.cell? ⟨b,o+k*7+1,none⟩=some (.bool r.over)/\w'.cell? ⟨b,o+k*7+2,none⟩=some (.bool r.fail)/\w'.cell? ⟨b,o+k*7+3,none⟩=some (.string r.text)/\w'.cell? ⟨b,o+k*7+4,none⟩=some (.int .i64 r.at')/\w'.cell? ⟨b,o+k*7+5,none⟩=some (.int .i64 r.Zq)/\w'.cell? ⟨b,o+k*7+6,none⟩=some (.slice xa r.texts.length xc)):=fun w' K=>⟨(K.cell z0).trans Y,(K.cell z1).trans N,(K.cell z1).trans Z,(K.cell a0).trans t0,(K.cell a0).trans t1,(K.cell a0).trans t2,(K.cell a0).trans t3,(K.cell a0).trans t4,(K.cell a0).trans t5,(K.cell a0).trans t6⟩
 have f3:Hid (∀W,K_ s W->Calls prog 101 #[.agg #[.slice a Kq.length cap],.agg #[.slice (some ⟨A,B,none⟩) j.length rc,.slice (some ⟨b,o,none⟩) l.length dc],.agg #[.string r.name,.bool r.over,.bool r.fail,.string r.text,.int .i64 r.at',.int .i64 r.Zq,.slice xa r.texts.length xc]] W fun e w'=>Says e (bL (Kk Kq) (Qq l) r)/\K_ W w'):=fun W K=>Au W a cap Kq (some ⟨A,B,none⟩) j.length rc (some ⟨b,o,none⟩) dc l r xa xc d2 d1 e9 (fun _ _=>c9.act) (hN.kept (F.trans K)) (hS.kept (F.trans K))
 have d4:Hid (∀W,K_ s W->Calls prog 140 #[.agg #[.slice a Kq.length cap],.agg #[.slice (some ⟨A,B,none⟩) j.length rc,.slice (some ⟨b,o,none⟩) l.length dc],.agg #[.string r.name,.bool r.over,.bool r.fail,.string r.text,.int .i64 r.at',.int .i64 r.Zq,.slice xa r.texts.length xc]] W fun e w'=>yU w.heap.size (W.heap.size+2) (Kk Kq) (Qq l) r w' e/\K_ W w'):=fun W K=>Ko w W (F.trans K) a cap Kq (some ⟨A,B,none⟩) j.length rc (some ⟨b,o,none⟩) dc l r xa xc d2 d1 e9 c6 j0 c9 d0 c7 hN (hS.kept (F.trans K)) d3 j2.o
 have⟨a9,HN,HS,j4,d5⟩:=dX F hN hS hR c7;have⟨f4,f5,j5⟩:=bA c9 hr c8;clear hr c8;clear F j3 M hN hS hR c7 d3 t0 t1 t2 t3 t4 t5 t6 Y N Z;go_enter func99,ntmps99
 go_upto_region 1 with fail
 rw[<-T];clear T;obtain⟨Y,N,Z,_⟩:=E.o _ (K_.refl _);go_wp2_with fail
 refine (jC _ (some ⟨A,B,none⟩) j.length rc (some ⟨b,o,none⟩) dc l name d1 (HS.o.kept a9.o)).mono ?_;rintro e w1 ⟨⟨q1,rfl,f6⟩,K1⟩;obtain rfl:q1= (k:Int):=by
  rcases f6 with⟨a6,hj,e1,D,h2⟩|⟨_,D⟩
  ·rw[e1];have f7:l.getD a6 Q_.zero=l.getD k Q_.zero:=by rw[f5.o] at D;rw[<-PW D,j5.o]
   simp only[List.getD,OZ hj,OZ hk,Ql] at f7;have f8:=congrArg Q_.name f7;have f9:=Pg.1 a5.asc;rcases Qf a6 k with n|n|n
   ·exact Qi f8 (fE (f9 a6 k hj hk n))
   ·rw[n]
   ·exact Qi f8.symm (fE (f9 k a6 hk hj n))
  ·rw[f5.o] at D;cases D
 clear f6 Y N Z;have m3:¬(k:Int)<0:=by omega
 have m4:(k:Int)<(l.length:Int):=by omega
 go_upto_region 2 with fail
 refine jI 12 E.o (K1.drew) (fun h=>?_);have x:K_ w1 w1.drew:=bB w1;generalize d6:w1.drew=G at h x⊢;clear d6;refine af 0 h ?_;refine af 4 h ?_;refine ae 8 h ?_;refine ae 9 h ?_;refine ax 10 (fun K f=>?_);go_simp
 go_at_call 101
 refine (f3.o G (K1.trans x)).mono ?_;rintro e w2 ⟨g0,g1⟩;have K2:=(K1.trans x).trans g1;rcases g0.cases with⟨rfl,_⟩|⟨rfl,j6⟩;rotate_left
 ·exact Qi d5.o j6
 clear g0 g1;dsimp only;refine f.out _ _ (fun _=>E.o _ K2) ?_;clear f K h x K1;have h:=E.o _ K2;try simp only[Act.put,upA,upB,upC]
 refine ae 11 h ?_;refine ay 12 (fun K f=>?_);go_simp
 refine f.out _ _ (fun n=>Qi rfl n) ?_;clear f K;try simp only[Act.put,upA,upB,upC]
 refine az ?_;clear h;go_upto_region 4 with fail
 go_cut [8,9] from 29 to 39 (fun s8 s9 wx=>∃t q z C U kc,s8= .pointer (some ⟨t,0,none⟩)/\s9= .slice U (Xx (Kk Kq) (Qq l) r).2.length kc/\q= (Xx (Kk Kq) (Qq l) r).1/\K_ s wx/\s.heap.size<=t/\og wx t q z C/\Strs wx z q.texts/\(z=none->C=0)/\Strs wx U (Xx (Kk Kq) (Qq l) r).2)
 case first=>
  refine jI 13 E.o (K2.drew) (fun h=>?_);have x:K_ w2 w2.drew:=bB w2;generalize d6:w2.drew=G at h x⊢;clear d6;refine af 0 h ?_;refine ae 4 h ?_;refine ae 5 h ?_;refine ae 6 h ?_;refine wK 7 11 (fun K f=>?_) (fun K f=>?_)
  ·rw[Qg (by rfl)];go_simp
   go_at_call 140
   refine (d4.o G (K2.trans x)).mono ?_;rintro e V ⟨⟨z,C,U,kc,rfl,L,X,H⟩,k3⟩;obtain⟨q,I⟩:=ag ((Xx (Kk Kq) (Qq l) r).1);obtain⟨a7,J⟩:=ag ((Xx (Kk Kq) (Qq l) r).2);rw[<-I] at L⊢;rw[<-J] at H⊢;have⟨HQ,HA,b6,a1,d7⟩:=dX I J L H X;clear L H X I J;dsimp only[Q_.cells];have O:=(K2.trans x).trans k3;refine f.out _ _ (fun _=>E.o _ O) ?_;clear f K h;have h:=E.o _ O;try simp only[Act.put,upA,upB,upC]
   refine ae 8 h ?_;refine ae 9 h ?_;refine ae 10 h ?_;refine ay 11 (fun K f=>?_);go_simp
   have K4:K_ V (V.alloc (.cells #[.string ⟨#[]⟩,.bool false,.bool false,.string ⟨#[]⟩,.int .i64 0,.int .i64 0,.slice none 0 0] 103)):=ak _ _;refine f.out _ _ (fun _=>E.o _ (O.trans K4)) ?_;clear f K;try simp only[Act.put,upA,upB,upC]
   have P:aL (V.alloc (.cells #[.string ⟨#[]⟩,.bool false,.bool false,.string ⟨#[]⟩,.int .i64 0,.int .i64 0,.slice none 0 0] 103)) V.heap.size 103 7:=aL.made V _ _;have KE:=O.trans K4;have b0:=Kz (lm.new b6.o.strs K4);have b1:=Kz (lm.new a1.o.strs K4);have Q:=O.size;obtain⟨t,a8⟩:=ag V.heap.size;rw[<-a8] at P b0 b1 Q⊢;generalize b2:V.alloc (.cells #[.string ⟨#[]⟩,.bool false,.bool false,.string ⟨#[]⟩,.int .i64 0,.int .i64 0,.slice none 0 0] 103)=wE at P KE b0 b1⊢;clear b2 K4 a8 b6 a1;obtain⟨⟨⟨_,v0⟩,g3⟩,⟨⟨_,v1⟩,f1⟩,⟨⟨_,v2⟩,j7⟩,⟨⟨_,v3⟩,j8⟩,⟨⟨_,v4⟩,j9⟩,⟨⟨_,v5⟩,k0⟩,⟨_,v6⟩,k1⟩:=P.row.LV;have vz:=P.lt;refine ay 12 (fun K f=>?_);go_simp
   refine f.out _ _ ?_ ?_
   ·exact fun _=>E.o _ (bG (g:=t) Q [.string q.name,.bool q.over,.bool q.fail,.string q.text,.int .i64 q.at',.int .i64 q.Zq,.slice z q.texts.length C] 0 KE)
   clear f K;try simp only[Act.put,upA,upB,upC]
   refine ay 13 (fun K f=>?_);go_simp
   refine f.out _ _ (fun n=>Qi rfl n) ?_;clear f K;try simp only[Act.put,upA,upB,upC]
   refine az ?_;go_wp2
   go_meet
   exact⟨t,q,z,C,U,kc,rfl,by rw[HA.o],HQ.o,bG (g:=t) Q [.string q.name,.bool q.over,.bool q.fail,.string q.text,.int .i64 q.at',.int .i64 q.Zq,.slice z q.texts.length C] 0 KE,Q,og.laid P,b0.o.sets [.string q.name,.bool q.over,.bool q.fail,.string q.text,.int .i64 q.at',.int .i64 q.Zq,.slice z q.texts.length C] 0,d7.o,by rw[<-HA.o];exact b1.o.sets [.string q.name,.bool q.over,.bool q.fail,.string q.text,.int .i64 q.at',.int .i64 q.Zq,.slice z q.texts.length C] 0⟩
  ·rw[Qg (by rfl)];go_simp
   have g5:K_ G (G.alloc (.cells #[.string ⟨#[]⟩,.bool false,.bool false,.string ⟨#[]⟩,.int .i64 0,.int .i64 0,.slice none 0 0] 103)):=ak _ _;have b7:=(K2.trans x).trans g5;have b8:aL (G.alloc (.cells #[.string ⟨#[]⟩,.bool false,.bool false,.string ⟨#[]⟩,.int .i64 0,.int .i64 0,.slice none 0 0] 103)) G.heap.size 103 7:=aL.made G _ _;have Q:=(K2.trans x).size;obtain⟨t,a8⟩:=ag G.heap.size;rw[<-a8] at b8 Q⊢;generalize b2:G.alloc (.cells #[.string ⟨#[]⟩,.bool false,.bool false,.string ⟨#[]⟩,.int .i64 0,.int .i64 0,.slice none 0 0] 103)=wF at b8 b7⊢;clear b2 g5 a8;refine f.out _ _ (fun _=>E.o _ b7) ?_;clear f K;try simp only[Act.put,upA,upB,upC]
   refine ax 7 (fun K f=>?_);go_simp
   go_at_call 140
   refine (d4.o wF b7).mono ?_;rintro e V ⟨⟨z,C,U,kc,rfl,L,X,H⟩,k3⟩;obtain⟨q,I⟩:=ag ((Xx (Kk Kq) (Qq l) r).1);obtain⟨a7,J⟩:=ag ((Xx (Kk Kq) (Qq l) r).2);rw[<-I] at L⊢;rw[<-J] at H⊢;have⟨HQ,HA,b6,a1,d7⟩:=dX I J L H X;clear L H X I J;dsimp only[Q_.cells];have O:=b7.trans k3;refine f.out _ _ (fun _=>E.o _ O) ?_;clear f K h;have h:=E.o _ O;try simp only[Act.put,upA,upB,upC]
   refine ae 8 h ?_;refine ae 9 h ?_;refine ae 10 h ?_;have P:=b8.kept k3;have KE:=O;have m5:=b8.lt;have b0:=Kz (lm.OC (nb:=t) b6.o (by omega) (by omega));have b1:=Kz (lm.OC (nb:=t) a1.o (by omega) (by omega));obtain⟨⟨⟨_,v0⟩,g3⟩,⟨⟨_,v1⟩,f1⟩,⟨⟨_,v2⟩,j7⟩,⟨⟨_,v3⟩,j8⟩,⟨⟨_,v4⟩,j9⟩,⟨⟨_,v5⟩,k0⟩,⟨_,v6⟩,k1⟩:=P.row.LV;have vz:=P.lt;refine ay 12 (fun K f=>?_);go_simp
   refine f.out _ _ ?_ ?_
   ·exact fun _=>E.o _ (bG (g:=t) Q [.string q.name,.bool q.over,.bool q.fail,.string q.text,.int .i64 q.at',.int .i64 q.Zq,.slice z q.texts.length C] 0 KE)
   clear f K;try simp only[Act.put,upA,upB,upC]
   refine ay 13 (fun K f=>?_);go_simp
   refine f.out _ _ (fun n=>Qi rfl n) ?_;clear f K;try simp only[Act.put,upA,upB,upC]
   refine az ?_;go_wp2
   go_meet
   exact⟨t,q,z,C,U,kc,rfl,by rw[HA.o],HQ.o,bG (g:=t) Q [.string q.name,.bool q.over,.bool q.fail,.string q.text,.int .i64 q.at',.int .i64 q.Zq,.slice z q.texts.length C] 0 KE,Q,og.laid P,b0.o.sets [.string q.name,.bool q.over,.bool q.fail,.string q.text,.int .i64 q.at',.int .i64 q.Zq,.slice z q.texts.length C] 0,d7.o,by rw[<-HA.o];exact b1.o.sets [.string q.name,.bool q.over,.bool q.fail,.string q.text,.int .i64 q.at',.int .i64 q.Zq,.slice z q.texts.length C] 0⟩
 case rest=>
  obtain⟨t,q,z,C,U,kc,rfl,rfl,I,Kx,a8,e0,L,X,H⟩:=hcut;obtain⟨w4,rfl⟩:=ag wc;have b9:q.Good Kq:=by rw[I];exact fM c6 d0 f4.o d5.o
  have k2:(Xx (Kk Kq) (Qq l) r).2.length<=5:=zH c6 d0 f4.o d5.o;obtain⟨a7,J⟩:=ag ((Xx (Kk Kq) (Qq l) r).2);rw[<-J] at k2 H⊢;have g7:Hid ((fC (Kk Kq) (dI l q) a7).foldl dI []=doL (Kk Kq) l r):=by show _=_;rw[J,I];rfl
  have g8:q.texts.length<=1000:=by have D:=b9.tl;have h2:=b9.hi;omega
  obtain⟨g9,h0,g2,h1,g4,h3,g6⟩:=e0.all;have gz:=e0.row.lt;have⟨a1,k4⟩:=aD H b9;have h4:Hid (∀W,K_ w4 W->Calls prog 98 #[.slice (some ⟨b,o,none⟩) l.length dc,.agg #[.string q.name,.bool q.over,.bool q.fail,.string q.text,.int .i64 q.at',.int .i64 q.Zq,.slice z q.texts.length C]] W fun e w'=>∃v,e= .returned v/\LC W w' (fun _=>True) v (dI l q)/\K_ W w'):=fun W hW=>CW W (some ⟨b,o,none⟩) dc l q z C (by omega) g8 a5.asc (fun _=>True) (fun _ _=>trivial) ((HS.o.kept (a9.o.trans (Kx.trans hW))).all) (L.kept hW) X
  obtain⟨Y,N,Z,_⟩:=E.o _ Kx;have k5:=OV z0 Kx.size;have k6:=OV z1 Kx.size;have b3:Hid (∀w',K_ w4 w'->w'.cell? ⟨w.heap.size,0,none⟩=some (.slice a Kq.length cap)/\w'.cell? ⟨w.heap.size+1,1,none⟩=some (.slice (some ⟨b,o,none⟩) l.length dc)/\w'.cell? ⟨t,0,none⟩=some (.string q.name)/\w'.cell? ⟨t,1,none⟩=some (.bool q.over)/\w'.cell? ⟨t,2,none⟩=some (.bool q.fail)/\w'.cell? ⟨t,3,none⟩=some (.string q.text)/\w'.cell? ⟨t,4,none⟩=some (.int .i64 q.at')/\w'.cell? ⟨t,5,none⟩=some (.int .i64 q.Zq)/\w'.cell? ⟨t,6,none⟩=some (.slice z q.texts.length C)):=fun w' K=>⟨(K.cell k5).trans Y,(K.cell k6).trans Z,(K.cell gz).trans g9,(K.cell gz).trans h0,(K.cell gz).trans g2,(K.cell gz).trans h1,(K.cell gz).trans g4,(K.cell gz).trans h3,(K.cell gz).trans g6⟩
  clear I J H b9 L X e0 g9 h0 g2 h1 g4 h3 g6 Y N Z d4 f3;go_upto_region 5 with fail
  refine aR 7 b3.o fun G x h=>?_
  refine af 0 h ?_;refine ax 4 (fun K f=>?_);go_simp
  go_at_call 98
  refine (h4.o G x).mono ?_;rintro e R ⟨v5,rfl,k7,k8⟩;have K5:=x.trans k8;obtain⟨w6,h5,c0,e2,e3,h6⟩:=k7;obtain⟨av,cv,rfl⟩:=aG e3;have⟨h7,h8⟩:=aD e3 h6;have h9:=Kz (HN.o.kept (a9.o.trans (Kx.trans (x.trans c0))));have i0:=Kz (a1.o.kept (x.trans c0));have i1:=Kz e2;have i2:=Kz (x.trans c0);have m6:=e2.size;clear e3 h6 c0 e2;refine f.out _ _ (fun _=>b3.o _ K5) ?_;clear f K h;have h:=b3.o _ K5;try simp only[Act.put,upA,upB,upC]
  refine ae 5 h ?_;refine ay 6 (fun K f=>?_);go_simp
  have c1:K_ R (R.alloc (.cells #[.slice a Kq.length cap,.slice av (dI l q).length cv] 94)):=ak _ _;have c2:Hid (KnX w6 (R.alloc (.cells #[.slice a Kq.length cap,.slice av (dI l q).length cv] 94)) R.heap.size a Kq.length cap (dI l q) av cv h5):=⟨i1.o.trans c1,⟨aL.made R _ _,X_ R #[.slice a Kq.length cap,.slice av (dI l q).length cv] 94 0 _ rfl,X_ R #[.slice a Kq.length cap,.slice av (dI l q).length cv] 94 1 _ rfl⟩,ai h7.o c1,h8.o⟩;have K7:=K5.trans c1;obtain⟨kb,i3⟩:=ag R.heap.size;have k9:w6.heap.size<=kb:=by omega
  refine f.out _ _ (fun _=>b3.o _ K7) ?_;clear f K h;rw[<-i3] at c2⊢;generalize b2:R.alloc (.cells #[.slice a Kq.length cap,.slice av (dI l q).length cv] 94)=w7 at c2 K7⊢;clear b2 c1 i3;try simp only[Act.put,upA,upB,upC]
  refine ay 7 (fun K f=>?_);go_simp
  refine f.out _ _ (fun n=>Qi rfl n) ?_;clear f K;try simp only[Act.put,upA,upB,upC]
  refine az ?_;go_wp2_with fail
  refine (Al w6 w7 kb k9 a cap Kq U kc a7 (dI l q) av cv h5 d2 (by omega) (by have:=yT l q;omega) c2.o h9.o i0.o).mono ?_;rintro e w8 ⟨rfl,d8,e4,m7,b4⟩;have i4:K_ w4 w8:=i2.o.trans b4.kw;have m1:=b4.known.runs;have kz:=b4.known.row.lt;have e5:=Kz b4.runs;obtain⟨a2,b5⟩:=ag (fC (Kk Kq) (dI l q) a7);have m8:a2.length<=1000:=by have D:=qx (Kk Kq) a7 (dI l q);have h2:=yT l q;rw[b5];omega
  have i5:Hid (∀c3∈a2,c3.texts.length<=1000):=fun c3 hx=>by
   rw[b5] at hx;rcases uJ _ _ _ _ hx with n|⟨m9,rfl⟩
   ·rcases sO.1 n with rfl|⟨D,_⟩
    ·exact g8
    ·have h2:=(a5.good c3 D).tl;have n0:=(a5.good c3 D).hi;omega
   ·exact OW _
  have i6:Hid (a2.foldl dI []=doL (Kk Kq) l r):=by show _=_;rw[b5];exact g7.o
  rw[<-b5] at e5 m1;have K8:=Kx.trans i4;have l0:Hid (∀W,K_ w8 W->Calls prog 48 #[.slice (some ⟨A,B,none⟩) j.length rc,.slice d8 a2.length e4] W fun e w'=>ry j (doL (Kk Kq) l r) W w' e):=fun W hW=>by
   have n:=xY W A B rc j d8 e4 a2 j1 (by omega) i5.o (fun a6=>by have:=qf a2 a6;omega) (j4.o.kept (a9.o.trans (K8.trans hW))) (e5.o.kept hW);rw[i6.o] at n;exact n
  obtain⟨_,N,_⟩:=E.o _ K8;have l1:=OV z1 K8.size;have i7:Hid (∀w',K_ w8 w'->w'.cell? ⟨w.heap.size+1,0,none⟩=some (.slice (some ⟨A,B,none⟩) j.length rc)/\w'.cell? ⟨kb,1,none⟩=some (.slice d8 a2.length e4)):=fun w' K=>⟨(K.cell l1).trans N,(K.cell kz).trans m1⟩
  have i8:=Kz (f2.o.kept K8);have l2:=a9.o.trans K8;clear b4 b5 e5 i6 i5 g7 m1 N i4 c2 h9 i0 i1 i2 h7 h8 h4 b3 E f2 HN HS a1 k4;go_upto_region 7 with fail
  refine aR 7 i7.o fun G x h=>?_
  refine af 0 h ?_;refine ae 4 h ?_;refine ae 5 h ?_;refine ax 6 (fun K f=>?_);go_simp
  go_at_call 48
  refine (l0.o G x).mono ?_;rintro e w9 ⟨ra,a3,d9,a4,l3,rfl,i9,e6,e7,l4⟩;obtain⟨c4,e8⟩:=ag (doL (Kk Kq) l r);rw[<-e8] at e6 e7⊢;have l5:=Kz e8;have K9:=x.trans l4;have z9:=K9.size;have zd:=x.size;have⟨l6,l7,l8⟩:=bA i9 e6 e7;have c5:=Kz (i8.o.kept K9);obtain⟨⟨_,x0⟩,g3⟩:=c5.o.row.at (i:=0) (by omega);obtain⟨⟨_,x1⟩,f1⟩:=c5.o.row.at (i:=1) (by omega);have n1:=i8.o.lt;have n2:=c5.o.lt;clear i9 e6 e7 e8;refine f.out _ _ (fun _=>i7.o _ K9) ?_;clear f K h;try simp only[Act.put,upA,upB,upC]
  refine ay 7 (fun K f=>?_);go_simp
  refine f.out _ _ (fun n=>Qi rfl n) ?_;clear f K;try simp only[Act.put,upA,upB,upC]
  refine az ?_;go_wp2_with fail
  have l9:=OY w9 (w.heap.size+1+1) 0 [.slice ra j.length a3,.slice d9 c4.length a4] (c5.o.row.there (o:=0) (m:=2) (OU _));have hO:=bV (bV l7.o (p:=⟨w.heap.size+1+1,0,none⟩) (by show w.heap.size+1+1<_;omega) (.slice ra j.length a3)) (p:=⟨w.heap.size+1+1,1,none⟩) (by show w.heap.size+1+1<_;omega) (.slice d9 c4.length a4);have hT:=bV (bV l6.o (p:=⟨w.heap.size+1+1,0,none⟩) (by show w.heap.size+1+1<_;omega) (.slice ra j.length a3)) (p:=⟨w.heap.size+1+1,1,none⟩) (by show w.heap.size+1+1<_;omega) (.slice d9 c4.length a4);have hP:=(l8.o.set (c:=w.heap.size+1+1) (p:=0) (fun b n=>by omega) (.slice ra j.length a3)).set (c:=w.heap.size+1+1) (p:=1) (fun b n=>by omega) (.slice d9 c4.length a4);obtain rfl:=l5.o;exact Zx [.slice ra j.length a3,.slice d9 (doL (Kk Kq) l r).length a4] _ results99 rfl l9 underlying53 rfl Tryz.rQ rfl ⟨ra,a3,d9,a4,l3,rfl,df hT (by omega),df hO (by omega),rZ hP (fun b n=>by omega),bG (g:=w.heap.size+1+1) (by omega) [.slice ra j.length a3,.slice d9 (doL (Kk Kq) l r).length a4] 0 (l2.trans K9)⟩
structure But (S:Nat->Prop) (w w':Qy):Prop where
 os:w'.os=w.os
 tape:w'.tape=w.tape
 output:w'.output=w.output
 size:w.heap.size<=w'.heap.size
 block:∀b,b<w.heap.size->¬S b->w'.heap[b]? =w.heap[b]?
variable {base : Nat}
section
variable {S : Nat -> Prop} {w w' w'' wz : Qy}
theorem But.aj(h:K_ w w'):But S w w':=⟨h.os,h.tape,h.output,h.size,fun b c _=>h.block b c⟩
theorem But.aQ{row:Option Nat}(h:w.grownBy w' row)(c:∀b,row=some b->S b):But S w w':=⟨h.os,h.tape,h.output,h.size,fun b d e=>h.block b d (fun f=>e (c b f.symm))⟩
theorem But.trans(h:But S w w')(k:But S w' w''):But S w w'':=⟨k.os.trans h.os,k.tape.trans h.tape,k.output.trans h.output,OX h.size k.size,fun b c d=>(k.block b (OV c h.size) d).trans (h.block b c d)⟩
theorem But.set(h:But S w w'){p:Addr}(c:S p.block)(v:QA):But S w (w'.setCell p v):=⟨h.os,h.tape,h.output,by rw[size_setCell];exact h.size,fun d e b=>by rw[Below.heap_setCell _ _ _ _ (fun f=>b (by rw[f];exact c))];exact h.block d e b⟩
theorem But.mono{S':Nat->Prop}(h:But S w w')(d:∀b,b<w.heap.size->S b->S' b):But S' w w':=⟨h.os,h.tape,h.output,h.size,fun b c e=>h.block b c (fun f=>e (d b c f))⟩
theorem But.kept(h:But S w w')(k:K_ wz w)(d:∀b,S b->wz.heap.size<=b):K_ wz w':=
 ⟨h.os.trans k.os,h.tape.trans k.tape,h.output.trans k.output,OX k.size h.size,fun b c=>(h.block b (OV c k.size) (fun e=>by have:=d b e;omega)).trans (k.block b c)⟩
theorem But.cell(h:But S w w'){o:Nat}(c:b<w.heap.size)(d:¬S b):w'.cell? ⟨b,o,none⟩=w.cell? ⟨b,o,none⟩:=Pi (w:=w) (h.block b c d)
theorem But.row(h:But S w w')(a:aL w b t n)(d:¬S b):aL w' b t n:=a.block (h.block b a.lt d)
theorem But.range(h:But S w w'){o:Nat}(a:aL w b t n)(c:¬S b){cs:List QA}(d:w.rangeAt b o cs):w'.rangeAt b o cs:=fun j v e=>(h.cell a.lt c).trans (d j v e)
theorem But.owns(h:But S w w'){size:Nat}{e:TypeId}{v:QA}{a:List QA}(c:w.ownsRow base e size v n a)(f:∀b,v.ownBlock=some b->¬S b):w'.ownsRow base e size v n a:=by
 refine⟨c.1, ?_⟩;rcases c.2 with i|⟨g,j,k,rfl,l,d,rest⟩
 ·exact .inl i
 ·exact .inr ⟨g,j,k,rfl,l,by rw[h.block g (aV d) (f g rfl)];exact d,rest⟩
end
def bZ(w:Qy)(b:Nat)(t:TypeId):Prop:=∃cur fr,w.heap[b]? =some (Obj.cells cur t fr)
theorem aL.type(h:aL w b t n):bZ w b t:=let ⟨cur,h1,_⟩:=h;⟨cur,_,h1⟩
theorem Y_{size:Nat}{e:TypeId}{v:QA}{c:List QA}(h:w.ownsRow base e size v n c)(a:v.ownBlock=some b):bZ w b e:=by
 rcases h.2 with⟨rfl,_⟩|⟨g,i,d,rfl,_,f,_⟩
 ·cases a
 ·simp only[Value.ownBlock,PN] at a;subst a;exact⟨d,_,f⟩
theorem aA{c:Nat}{u:TypeId}(h:bZ w b t)(k:bZ w c u)(d:t≠u):b≠c:=by
 rintro rfl;obtain⟨f,g,e⟩:=h;obtain⟨i,j,a⟩:=k;rw[e] at a;simp only[PN,Obj.cells.injEq] at a;exact d a.2.1
structure Zk where
 tb:Nat
 r:Q_
 cost:Int
 steps:List Xq
 sa:Qx
 sc:Nat
 op:Nat
 tv:QA
 qv:QA
 qs:List QA
 bl:Qw
def Zk.cells(t:Zk):List QA:=[.string t.r.name,.bool t.r.over,.bool t.r.fail,.string t.r.text,.int .i64 t.r.at',.int .i64 t.r.Zq,t.tv,.int .i64 t.cost,.slice t.sa t.steps.length t.sc,.int .i64 (t.op:Int),t.qv,.string t.bl]
def Zk.ptr(t:Zk):QA:= .pointer (some ⟨t.tb,0,none⟩)
def Zk.own(t:Zk):List Nat:=t.tv.ownBlock.toList++t.qv.ownBlock.toList
def xH(b:Nat):QA:= .pointer (some ⟨b,0,none⟩)
structure lJ (base:Nat) (w:Qy) (t:Zk):Prop where
 row:aL w t.tb 153 12
 rng:w.rangeAt t.tb 0 t.cells
 txt:w.ownsRow base 9 1 t.tv t.r.texts.length (t.r.texts.map Value.string)
 ask:w.ownsRow base 9 1 t.qv t.qs.length t.qs
 low:base<=t.tb
theorem lJ.dY{t:Zk}(h:lJ base w t){x:Nat}(a:x∈t.own):bZ w x 9/\base<=x/\x<w.heap.size:=by
 unfold Zk.own at a;rcases Pe.1 a with a|a
 ·have e:=PH.1 a;exact⟨Y_ h.txt e,h.txt.lt x e⟩
 ·have e:=PH.1 a;exact⟨Y_ h.ask e,h.ask.lt x e⟩
variable {S : Nat -> Prop}
theorem lJ.but{t:Zk}(h:lJ base w t)(k:But S w w')(d:¬S t.tb)(h2:∀x∈t.own,¬S x):lJ base w' t:=
 ⟨k.row h.row d,k.range h.row d h.rng,k.owns h.txt (fun b c=>h2 b (Pe.2 (.inl (PH.2 c)))),k.owns h.ask (fun b c=>h2 b (Pe.2 (.inr (PH.2 c)))),h.low⟩
def asIs(v:QA):Option (DataW QA×List MemPlace):=some (.held v,[])
def bT(s:Qw):Lit:= .string s.data.toList
def Qj(ts:List Zk):List Q_:=ts.map (·.r)
structure cO where
 wo:Qy
 K:Nat->Prop
 ps:List (Nat×Qw)
 I:Nat->Prop
def cO.no(w:Qy):cO:=⟨w,fun _=>False,[],fun _=>False⟩
structure Fen (G:cO) (w:Qy) (bb mb:Nat) (ts:List Zk) (f:Qw->QA):Prop where
 size:G.wo.heap.size<=w.heap.size
 lt:∀k,G.K k->k<G.wo.heap.size
 same:∀k,G.K k->w.heap[k]? =G.wo.heap[k]?
 nb:¬G.K bb
 nm:¬G.K mb
 nt:∀t∈ts,¬G.K t.tb/\∀x∈t.own,¬G.K x
 nf:∀s x,(f s).ownBlock=some x->¬G.K x
 has:∀p∈G.ps,∃t∈ts,t.tb=p.1/\t.r.name=p.2
variable {mb : Nat}
theorem Fen.but{G:cO}{bb:Nat}{ts:List Zk}{f:Qw->QA}(h:Fen G w bb mb ts f)(k:But S w w')(d:∀b,S b->¬G.K b):Fen G w' bb mb ts f:=
 ⟨OX h.size k.size,h.lt,fun b c=>(k.block b (OV (h.lt b c) h.size) (fun e=>d b e c)).trans (h.same b c),h.nb,h.nm,h.nt,h.nf,h.has⟩
theorem Fen.far{G:cO}{bb:Nat}{ts:List Zk}{f:Qw->QA}(h:Fen G w bb mb ts f){x:Nat}(c:w.heap.size<=x):¬G.K x:=fun b=>by
 have d:=h.lt x b;have e:=h.size;omega
theorem Fen.no{bb:Nat}{ts:List Zk}{f:Qw->QA}(h:w.heap.size<=w'.heap.size):Fen (cO.no w) w' bb mb ts f:=
 ⟨h,fun _ e=>e.elim,fun _ e=>e.elim,id,id,fun _ _=>⟨id,fun _ _=>id⟩,fun _ _ _=>id,fun _ h=>(by cases h)⟩
structure BM (G:cO) (Kq:List Qz) (wz w:Qy) (bb:Nat) (a:Qx) (cap:Nat) (rd:Qx) (rn rc:Nat) (mb mx:Nat) (ts:List Zk) (d:Qx) (dc:Nat) (f:Qw->QA) (ws:Qw->List Nat):Prop where
 kw:K_ wz w
 row:aL w bb 128 6
 c0:w.cell? ⟨bb,0,none⟩=some (.slice a Kq.length cap)
 c1:w.cell? ⟨bb,1,none⟩=some (.func (.func 111) #[] #[])
 c2:w.cell? ⟨bb,2,none⟩=some (.slice rd rn rc)
 c3:w.cell? ⟨bb,3,none⟩=some (.slice d ts.length dc)
 c4:w.cell? ⟨bb,4,none⟩=some (.func (.func 63) #[] #[])
 c5:w.cell? ⟨bb,5,none⟩=some (.map (some mb))
 low:wz.heap.size<=bb
 items:w.ownsRow wz.heap.size 145 1 (.slice d ts.length dc) ts.length (ts.map Zk.ptr)
 fu:∀t∈ts,lJ wz.heap.size w t
 act:∀t∈ts,Kk Kq t.r.name=some ⟨t.cost,t.steps⟩/\Steps wz t.sa t.steps
 asc:dB (Qj ts)
 tbs:(ts.map (·.tb)).Nodup
 sep:ts.Pairwise fun t u=>∀x∈t.own,x∉u.own
 Ad:∀t∈ts,t.own.Nodup
 map:∃N D,N<=mx/\w.ownsMap prog 9 asIs mb N D/\∀s:Qw,s.size<=maxLen->D.atKey (bT s) (.held (.slice none 0 0))= .held (f s)
 CG:wz.heap.size<=mb
 iU:∀s,w.ownsRow wz.heap.size 145 1 (f s) (ws s).length ((ws s).map xH)
 Af:∀s s',s≠s'->∀x,(f s).ownBlock=some x->(f s').ownBlock≠some x
 CF:∀s x,(f s).ownBlock=some x->(Value.slice d ts.length dc).ownBlock≠some x
 qb:∀t∈ts,t.qs.length<=5*mx
 oth:Fen G w bb mb ts f
 gi:∀x,(Value.slice d ts.length dc).ownBlock=some x->¬(G.I x/\G.K x)
theorem iB{N:Nat}{D:DataW QA}(h:w.ownsMap prog 9 asIs mb N D)(k:But S w w')(b:¬S mb):w'.ownsMap prog 9 asIs mb N D:=by
 obtain⟨c,d,a,F,e,f⟩:=h;exact⟨c,d,by rw[k.block mb (aV a) b];exact a,F,e,f⟩
theorem ib{N:Nat}{D:DataW QA}(h:w.ownsMap prog 9 asIs mb N D)(k:bZ w b t):b≠mb:=by
 rintro rfl;obtain⟨d,e,c,_⟩:=h;obtain⟨f,g,a⟩:=k;rw[c] at a;cases a
section
variable {G : cO} {Kq : List Qz} {wz w w' : Qy} {bb : Nat} {a : Qx} {cap : Nat} {rd : Qx} {rn rc : Nat} {mb mx : Nat} {ts : List Zk} {d : Qx} {dc : Nat} {f : Qw -> QA} {ws : Qw -> List Nat}
theorem BM.but(h:BM G Kq wz w bb a cap rd rn rc mb mx ts d dc f ws)(k:But S w w')(j:∀b,S b->wz.heap.size<=b)(c:¬S bb)(h2:¬S mb)(l:∀b,(Value.slice d ts.length dc).ownBlock=some b->¬S b)(m:∀s b,(f s).ownBlock=some b->¬S b)(i:∀t∈ts,¬S t.tb/\∀x∈t.own,¬S x)(n:∀b,S b->¬G.K b):BM G Kq wz w' bb a cap rd rn rc mb mx ts d dc f ws:=by
 have e:=h.row.lt;refine⟨k.kept h.kw j,k.row h.row c,(k.cell e c).trans h.c0,(k.cell e c).trans h.c1,(k.cell e c).trans h.c2,(k.cell e c).trans h.c3,(k.cell e c).trans h.c4,(k.cell e c).trans h.c5,h.low,k.owns h.items l,fun t g=>(h.fu t g).but k (i t g).1 (i t g).2,h.act,h.asc,h.tbs,h.sep,h.Ad, ?_,h.CG,fun s=>k.owns (h.iU s) (m s),h.Af,h.CF,h.qb,h.oth.but k n,h.gi⟩;obtain⟨N,D,p,q,r⟩:=h.map;exact⟨N,D,p,iB q k h2,r⟩
theorem BM.kept(h:BM G Kq wz w bb a cap rd rn rc mb mx ts d dc f ws)(k:K_ w w'):BM G Kq wz w' bb a cap rd rn rc mb mx ts d dc f ws:=
 h.but (S:=fun _=>False) (But.aj k) (fun _ h=>h.elim) id id (fun _ _=>id) (fun _ _ _=>id) (fun _ _=>⟨id,fun _ _=>id⟩) (fun _ h=>h.elim)
theorem BM.more{c:Nat}(h:BM G Kq wz w bb a cap rd rn rc mb mx ts d dc f ws)(e:mx<=c):BM G Kq wz w bb a cap rd rn rc mb c ts d dc f ws:=
 ⟨h.kw,h.row,h.c0,h.c1,h.c2,h.c3,h.c4,h.c5,h.low,h.items,h.fu,h.act,h.asc,h.tbs,h.sep,h.Ad,(by obtain⟨N,D,i,j⟩:=h.map;exact⟨N,D,OX i e,j⟩),h.CG,h.iU,h.Af,h.CF,fun t l=>OX (h.qb t l) (Nat.mul_le_mul_left 5 e),h.oth,h.gi⟩
theorem bO{α:Type}{l:List α}{i:Nat}(h:i<l.length):l[i]∈l:=Pf h
theorem qg{t':Zk}{i:Nat}(_hi:i<ts.length):Qj (ts.set i t')= (Qj ts).set i t'.r:=by simp[Qj,List.map_set]
theorem B_{l:List Q_}{i:Nat}{b:Q_}(h:dB l)(hi:i<l.length)(c:b.name=l[i].name):dB (l.set i b):=by
 unfold dB at h⊢;rw[Pg] at h⊢;intro p q d f j;rw[Qd] at d f;rw[Qv,Qv];have:=h p q d f j
 split <;> split
 ·omega
 ·rename_i e _;subst e;rw[c];exact this
 ·rename_i _ e;subst e;rw[c];exact this
 ·exact this
theorem BM.turn(h:BM G Kq wz w bb a cap rd rn rc mb mx ts d dc f ws){i:Nat}(hi:i<ts.length)(k:But S w w')(y:∀b,S b->b=ts[i].tb\/b∈ts[i].own){t':Zk}(W:lJ wz.heap.size w' t')(D:t'.tb=ts[i].tb)(I:t'.r.name=ts[i].r.name)(J:t'.cost=ts[i].cost)(X:t'.steps=ts[i].steps)(Y:t'.sa=ts[i].sa)(L:∀x∈t'.own,x∈ts[i].own\/w.heap.size<=x)(Z:t'.own.Nodup)(a0:t'.qs.length<=5*mx):BM G Kq wz w' bb a cap rd rn rc mb mx (ts.set i t') d dc f ws:=by
 have z:=h.row.lt;have q:=h.fu ts[i] (bO hi);have s:(ts.set i t').length=ts.length:=Qd ..;have M:∀{b:Nat} {u:TypeId},bZ w b u->u≠153->u≠9->¬S b:=fun l h1 h2 n=>by
  rcases y _ n with e|e
  ·exact aA l q.row.type h1 e
  ·exact aA l (q.dY e).1 h2 rfl
 have hm:=h.map;obtain⟨a1,a2,hN,N,hf⟩:=hm;have a3:¬S mb:=fun n=>by
  rcases y _ n with e|e
  ·exact ib N q.row.type e.symm
  ·exact ib N (q.dY e).1 rfl
 have t:¬S bb:=M h.row.type (by decide) (by decide);have other:∀(j:Nat) (c:j<ts.length),j≠i->¬S ts[j].tb/\∀x∈ts[j].own,¬S x:=fun j c p=>by
  have Q:=h.fu ts[j] (bO c);refine⟨fun n=>?_,fun x m n=>?_⟩
  ·rcases y _ n with e|e
   ·have R:=Pg.1 h.tbs;rcases Nat.lt_or_gt_of_ne p with v|v
    ·have:=R j i (by simpa using c) (by simpa using hi) v;simp at this;exact this e
    ·have:=R i j (by simpa using hi) (by simpa using c) v;simp at this;exact this e.symm
   ·exact aA Q.row.type (q.dY e).1 (by decide) rfl
  ·rcases y _ n with e|e
   ·exact aA (Q.dY m).1 q.row.type (by decide) e
   ·have A:=Pg.1 h.sep;rcases Nat.lt_or_gt_of_ne p with v|v
    ·exact A j i c hi v x m e
    ·exact A i j hi c v x e m
 have mem:∀u∈ts.set i t',u=t'\/∃(j:Nat) (c:j<ts.length),j≠i/\u=ts[j]:=fun u l=>by
  obtain⟨j,c,rfl⟩:=Ph l;rw[s] at c;rw[Qv]
  split
  ·exact .inl rfl
  ·rename_i e;exact .inr ⟨j,c,Ne.symm e,rfl⟩
 have a4:∀b,S b->wz.heap.size<=b:=fun b n=>by
  rcases y b n with e|e
  ·rw[e];exact q.low
  ·exact (q.dY e).2.1
 have a5:∀b,S b->¬G.K b:=fun b n=>by
  rcases y b n with e|e
  ·rw[e];exact (h.oth.nt _ (bO hi)).1
  ·exact (h.oth.nt _ (bO hi)).2 b e
 have a6:Fen G w' bb mb (ts.set i t') f:=by
  have B:=h.oth.but k a5;refine⟨B.size,B.lt,B.same,B.nb,B.nm,fun u l=>?_,B.nf,fun E C=>?_⟩;rotate_left
  ·obtain⟨u,l,T,F⟩:=h.oth.has E C;obtain⟨j,c,rfl⟩:=Ph l;by_cases e:j=i
   ·subst e;exact⟨t',List.mem_set c _,by rw[D];exact T,by rw[I];exact F⟩
   ·refine⟨ts[j], ?_,T,F⟩;have J:(ts.set i t')[j]'(by rw[s];exact c)=ts[j]:=by rw[Qv,Qh (Ne.symm e)]
    rw[<-J];exact Pf _
  rcases mem u l with rfl|⟨j,c,p,rfl⟩
  ·refine⟨by rw[D];exact (h.oth.nt _ (bO hi)).1,fun x m=>?_⟩;rcases L x m with g | g
   ·exact (h.oth.nt _ (bO hi)).2 x g
   ·exact h.oth.far g
  ·exact h.oth.nt _ (bO c)
 refine⟨k.kept h.kw a4,k.row h.row t,(k.cell z t).trans h.c0,(k.cell z t).trans h.c1,(k.cell z t).trans h.c2,by rw[s];exact (k.cell z t).trans h.c3,(k.cell z t).trans h.c4,(k.cell z t).trans h.c5,h.low, ?_, ?_, ?_, ?_, ?_, ?_, ?_,⟨a1,a2,hN,iB N k a3,hf⟩,h.CG,fun U=>k.owns (h.iU U) (fun b e=>M (Y_ (h.iU U) e) (by decide) (by decide)),h.Af,by rw[s];exact h.CF,fun u l=>by rcases mem u l with rfl | ⟨j,c,p,rfl⟩;exact a0;exact h.qb _ (bO c),a6,by rw[s];exact h.gi⟩
 ·have e:(ts.set i t').map Zk.ptr=ts.map Zk.ptr:=by
   rw[List.map_set];have O:t'.ptr= (ts.map Zk.ptr)[i]'(by simpa using hi):=by simp[Zk.ptr,D]
   rw[O,List.set_getElem_self]
  rw[s,e];exact k.owns h.items (fun b e=>M (Y_ h.items e) (by decide) (by decide))
 ·intro u l;rcases mem u l with rfl|⟨j,c,p,rfl⟩
  ·exact W
  ·exact (h.fu _ (bO c)).but k (other j c p).1 (other j c p).2
 ·intro u l;rcases mem u l with rfl|⟨j,c,p,rfl⟩
  ·rw[I,J,X,Y];exact h.act _ (bO hi)
  ·exact h.act _ (bO c)
 ·rw[qg hi];exact B_ h.asc (by simpa[Qj] using hi) (by simp[Qj,I])
 ·have e:(ts.set i t').map (·.tb)=ts.map (·.tb):=by
   rw[List.map_set];have O:t'.tb= (ts.map (·.tb))[i]'(by simpa using hi):=by simp[D]
   rw[O,List.set_getElem_self]
  rw[e];exact h.tbs
 ·rw[Pg];have A:=Pg.1 h.sep;intro E V C H P x m;rw[s] at C H;rw[Qv] at m⊢
  split at m
  ·rename_i e
   subst e;rw[Qh (by omega)];rcases L x m with g|g
   ·exact A i V hi H P x g
   ·intro F;have:=((h.fu _ (bO H)).dY F).2.2;omega
  ·split
   ·rename_i e
    subst e;intro g;rcases L x g with g|g
    ·exact A E i C hi P x m g
    ·have:=((h.fu _ (bO C)).dY m).2.2;omega
   ·exact A E V C H P x m
 ·intro u l;rcases mem u l with rfl|⟨j,c,p,rfl⟩
  ·exact Z
  ·exact h.Ad _ (bO c)
end
def Cq(W:aZ)(r:Q_)(bl:Qw):Prop:=
 (bl= ⟨#[]⟩/\(r.over=true->r.fail=true->r.text=oV\/∃A,W r.name=some A/\(stepOf A r.at').fin=true))\/
 (r.over=true/\r.fail=true/\(∃A,W r.name=some A/\(stepOf A r.at').fin=false/\bl∈(stepOf A r.at').asks)/\r.text= (⟨#[98,101,108,111,119,32]⟩:Qw)++bl)
theorem Cq.open{b:Qw}(h:Cq W r b)(c:r.over=false):b= ⟨#[]⟩:=by
 rcases h with h|⟨h,_⟩
 ·exact h.1
 ·rw[c] at h;cases h
theorem Cq.still{a:Qw}(c:a= ⟨#[]⟩)(d:r.over=false):Cq W r a:= .inl ⟨c,fun h=>by rw[d] at h;cases h⟩
def xu(W:aZ)(σ:Env)(r:Q_)(qs:List QA):Prop:=∃L,zT W σ r L/\qs=L.map Value.string
theorem xu.mono{m:Qw}{a:List QA}(h:xu W σ r a)(c:bD W σ m):xu W (doX W σ m) r a:=by
 obtain⟨L,e,f⟩:=h;exact⟨L,e.mono c,f⟩
theorem xu.unit{a:List QA}(h:xu W σ r a)(c:bL W σ r):xu W σ (Xx W σ r).1 (a++ (Xx W σ r).2.map Value.string):=by
 obtain⟨L,d,e⟩:=h;exact⟨_,d.unit c,by rw[e,Qm]⟩
theorem xu.still{a:List QA}(b:a=[])(c:r=Q_.fresh r.name):xu W σ r a:=⟨[],by rw[c];exact zT.start _,b⟩
def Zk.bq(t:Zk):Qw×List QA:=(t.bl,t.qs)
structure BS (Kq:List Qz) (ts:List Zk) (ws:Qw->List Nat):Prop where
 good:dU Kq (Qj ts)
 op:∀t∈ts,t.op= (pend (Kk Kq) (Qq (Qj ts)) t.r).length
 wt:∀s,∀t∈ts,(t.tb∈ws s↔s∈pend (Kk Kq) (Qq (Qj ts)) t.r)
 wn:∀s,(ws s).Nodup
 ww:∀s b,b∈ws s->∃t∈ts,t.tb=b
 bl:∀t∈ts,Cq (Kk Kq) t.r t.bl
 qs:∀t∈ts,xu (Kk Kq) (Qq (Qj ts)) t.r t.qs
