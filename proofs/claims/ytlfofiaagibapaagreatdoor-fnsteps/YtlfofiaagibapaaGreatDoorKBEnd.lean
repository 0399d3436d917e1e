import Derived.Test.YtlfofiaagibapaaGreatDoorKXStart
import Derived.Test.YtlfofiaagibapaaGreatDoorKXNext
import Derived.Test.YtlfofiaagibapaaGreatDoorKFImpl2
set_option maxRecDepth 100000
set_option maxHeartbeats 25600000
namespace Go.Proofs.YtlfofiaagibapaaGreatDoor
open Go.RowKit Go.Proofs.Tryz
def il(w:NN)(nb:Nat)(a:NM)(l:List NL):Prop:=∀i,i<l.length->∃b o,a=some ⟨b,o,none⟩/\b<w.heap.size/\b≠nb/\w.cell? ⟨b,o+i,none⟩=some (.string (l.getD i ByteArray.empty))
variable {l:List NL}{a:NM}{w w':NN}
theorem il.new(h:Strs w a l)(k:K_ w w'):il w' w.heap.size a l:=λi c=>by
 let⟨d,o,e,b,f⟩:=h i c;exact⟨d,o,e,Mk b k.size,E5,(k.cell b).trans f⟩
variable {nb:Nat}
theorem il.Mf{n0 c:Nat}(h:eY n0 w c a l)(k:n0<=nb)(h2:nb<c+2):il w nb a l:=λi d=>by
 let⟨b,o,e,f,m,j⟩:=h i d;exact⟨b,o,e,f,E5,j⟩
theorem il.KO :∀(vs:List NP)(p:Nat){w:NN},il w nb a l->il (w.setCells nb p vs) nb a l
 |[],_,_,h=>h
 |v :: r,p,w,h=>by
  rw[World.setCells];refine il.KO r (p+1) λi c=>?_
  let⟨d,o,e,f,b,j⟩:=h i c;exact⟨d,o,e,by rw[size_setCell];exact f,b,by rw[Zj b];exact j⟩
theorem il.sets(h:il w nb a l)(vs:List NP)(p:Nat):Strs (w.setCells nb p vs) a l:=λi c=>by
 let⟨b,o,e,d,_,f⟩:=il.KO vs p h i c;exact⟨b,o,e,d,f⟩
variable {b n:Nat}{t:TypeId}
theorem ay.sets :∀(vs:List NP)(p:Nat){w:NN},ay w b t n->ay (w.setCells b p vs) b t n
 |[],_,_,h=>h
 |v :: r,p,_,h=>by rw[World.setCells];exact ay.sets r (p+1) (h.set v)
theorem gV.laid(h:ay w nb 48 7){q:Q_}{a:NM}{b:Nat}:gV (w.setCells nb 0 (q.cells a b)) nb q a b:=⟨ay.sets _ _ h,Mo w nb 0 (q.cells a b) (h.row.there (o:=0) (m:=7) (Mj _))⟩
variable {W:dC}{σ:Env}{r:Q_}
theorem FT :(Xx W σ r).2=[]\/∃A,W r.name=some A/\(Xx W σ r).2= (stepOf A (Xx W σ r).1.at').asks:=by
 unfold Xx;cases d:W r.name with
 |none=>exact .inl rfl
 |some A=>
  simp only;by_cases a:r.Zq=0
  .rw[Nz a];refine .inr ⟨A,rfl,?_⟩;unfold ek
   split<;>rfl
  .rw[NA a];cases Yz W σ (stepOf A r.at').asks with
   |none=>exact .inl rfl
   |some xs=>
    simp only;by_cases b:r.Zq=20
    .rw[Nz b];exact .inl rfl
    .rw[NA b];by_cases c:(eT (stepOf A r.at') xs).over=true
     .rw[Nz c];exact .inl rfl
     .rw[NA c];refine .inr ⟨A,rfl,?_⟩;unfold ek
      split<;>rfl
variable {Kq:List Qz}
theorem yF(b:bH (Kk Kq))(d:dz Kq σ)(h:r.Good Kq)(f:aS (Kk Kq) σ r):(Xx (Kk Kq) σ r).2.length<=5:=by
 rcases FT (W:=Kk Kq) (σ:=σ) (r:=r) with e|⟨A,c,e⟩
 .rw[e];exact Ml _
 .obtain⟨k,a,i,j⟩:=(dU b d h f).act;rw[dx] at a;rw[c] at a;cases a;rw[e];exact (iw (b _ _ c).1 i j).1
theorem EX(w:NN)(a:NM)(cap:Nat)(Kq:List Qz)(A B rc:Nat)(Kj:List NL)(d:NM)(dc:Nat)(l:List Q_)(c5:NL)(r:Q_)(m2:Kq.length<=1000)(m3:l.length<=900)(e8:jl Kq)(c6:bH (Kk Kq))(j0:∀y∈Kq,y.Fits)(j1:Kj.length<=10)(a5:dW Kq l)(hr:Qq l c5=some r)(c7:aS (Kk Kq) (Qq l) r)(hN:bQ w a Kq)(hS:bN w d l)(hR:Strs w (some ⟨A,B,none⟩) Kj):Calls prog 58 #[.agg #[.slice a Kq.length cap],.agg #[.slice (some ⟨A,B,none⟩) Kj.length rc,.slice d l.length dc],.string c5] w λe w'=>Ai Kj (doL (Kk Kq) l r) w w' e:=by
 obtain⟨k,hk,c8⟩:∃k,k<l.length/\l.getD k Q_.zero=r:=by
  let⟨k,D,h2⟩:=MB (aZ hr).1;exact⟨k,D,by simp only[List.getD,Mq D,NC,h2]⟩
 have c9:=a5.good r (aZ hr).1;have d0:=a5.env;have d1:l.length<=1048576:=E5;have d2:Kq.length<=1048576:=E5;obtain⟨b,o,xa,xc,rfl,S,M,d3,e9⟩:=hS k hk;rw[c8] at M d3;have j2:=Kz e9;clear e9;let⟨s,T⟩:=aj (((w.alloc (.cells #[.slice a Kq.length cap] 25)).alloc (.cells #[.slice (some ⟨A,B,none⟩) Kj.length rc,.slice (some ⟨b,o,none⟩) l.length dc] 43)).alloc (.cells #[M3,M3] 43));have F:K_ w s:=by rw[T];exact ((ah _ _).alloc _).alloc _
 have j3:s.heap.size=w.heap.size+3:=by rw[T];simp
 have Y:s.cell? ⟨w.heap.size,0,none⟩=some (.slice a Kq.length cap):=by rw[T,K_.cell (w:=w.alloc (.cells #[.slice a Kq.length cap] 25)) ((ah _ _).alloc _) E9];exact X_ w _ _ 0 _ rfl
 have N:s.cell? ⟨w.heap.size+1,0,none⟩=some (.slice (some ⟨A,B,none⟩) Kj.length rc):=by have:=X_ (w.alloc (.cells #[.slice a Kq.length cap] 25)) #[.slice (some ⟨A,B,none⟩) Kj.length rc,.slice (some ⟨b,o,none⟩) l.length dc] 43 0 _ rfl;rw[MZ] at this;rw[T,K_.cell (w:=(w.alloc (.cells #[.slice a Kq.length cap] 25)).alloc (.cells #[.slice (some ⟨A,B,none⟩) Kj.length rc,.slice (some ⟨b,o,none⟩) l.length dc] 43)) (ah _ _) E9];exact this
 have Z:s.cell? ⟨w.heap.size+1,1,none⟩=some (.slice (some ⟨b,o,none⟩) l.length dc):=by have:=X_ (w.alloc (.cells #[.slice a Kq.length cap] 25)) #[.slice (some ⟨A,B,none⟩) Kj.length rc,.slice (some ⟨b,o,none⟩) l.length dc] 43 1 _ rfl;rw[MZ] at this;rw[T,K_.cell (w:=(w.alloc (.cells #[.slice a Kq.length cap] 25)).alloc (.cells #[.slice (some ⟨A,B,none⟩) Kj.length rc,.slice (some ⟨b,o,none⟩) l.length dc] 43)) (ah _ _) E9];exact this
 have f0:Hid (ay s (w.heap.size+1+1) 43 2):=by
  have D:=ay.made ((w.alloc (.cells #[.slice a Kq.length cap] 25)).alloc (.cells #[.slice (some ⟨A,B,none⟩) Kj.length rc,.slice (some ⟨b,o,none⟩) l.length dc] 43)) #[M3,M3] 43;simp only[MZ] at D;rw[T];exact D
 have z0:w.heap.size<s.heap.size:=E5;have z1:w.heap.size+1<s.heap.size:=E5;have a0:=Mk S F.size;have t0:M4 s b (o+k*7) (.string r.name):=(F.cell S).trans (M 0 _ rfl);have t1:M4 s b (o+k*7+1) (.bool r.over):=(F.cell S).trans (M 1 _ rfl);have t2:M4 s b (o+k*7+2) (.bool r.fail):=(F.cell S).trans (M 2 _ rfl);have t3:M4 s b (o+k*7+3) (.string r.text):=(F.cell S).trans (M 3 _ rfl);have t4:M4 s b (o+k*7+4) (.a r.at'):=(F.cell S).trans (M 4 _ rfl);have t5:M4 s b (o+k*7+5) (.a r.Zq):=(F.cell S).trans (M 5 _ rfl);have t6:M4 s b (o+k*7+6) (.slice xa r.texts.length xc):=(F.cell S).trans (M 6 _ rfl);have E:Hid (∀w',K_ s w'->M4 w' w.heap.size 0 (.slice a Kq.length cap)/\M4 w' (w.heap.size+1) 0 (.slice (some ⟨A,B,none⟩) Kj.length rc)/\M4 w' (w.heap.size+1) 1 (.slice (some ⟨b,o,none⟩) l.length dc)/\M4 w' b (o+k*7) (.string r.name)/\M4 w' b (o+k*7+1) (.bool r.over)/\M4 w' b (o+k*7+2) (.bool r.fail)/\M4 w' b (o+k*7+3) (.string r.text)/\M4 w' b (o+k*7+4) (.a r.at')/\M4 w' b (o+k*7+5) (.a r.Zq)/\M4 w' b (o+k*7+6) (.slice xa r.texts.length xc)):=λw' K=>⟨(K.cell z0).trans Y,(K.cell z1).trans N,(K.cell z1).trans Z,(K.cell a0).trans t0,(K.cell a0).trans t1,(K.cell a0).trans t2,(K.cell a0).trans t3,(K.cell a0).trans t4,(K.cell a0).trans t5,(K.cell a0).trans t6⟩
 have f1:Hid (∀W,K_ s W->Calls prog 113 #[.agg #[.slice a Kq.length cap],.agg #[.slice (some ⟨A,B,none⟩) Kj.length rc,.slice (some ⟨b,o,none⟩) l.length dc],.agg #[.string r.name,.bool r.over,.bool r.fail,.string r.text,.a r.at',.a r.Zq,.slice xa r.texts.length xc]] W λe w'=>Says e (aS (Kk Kq) (Qq l) r)/\K_ W w'):=λW K=>zV W a cap Kq (some ⟨A,B,none⟩) Kj.length rc (some ⟨b,o,none⟩) dc l r xa xc d2 d1 e8 (λ_ _=>c9.act) (hN.kept (F.trans K)) (hS.kept (F.trans K))
 have d4:Hid (∀W,K_ s W->Calls prog 114 #[.agg #[.slice a Kq.length cap],.agg #[.slice (some ⟨A,B,none⟩) Kj.length rc,.slice (some ⟨b,o,none⟩) l.length dc],.agg #[.string r.name,.bool r.over,.bool r.fail,.string r.text,.a r.at',.a r.Zq,.slice xa r.texts.length xc]] W λe w'=>vY w.heap.size (W.heap.size+2) (Kk Kq) (Qq l) r w' e/\K_ W w'):=λW K=>Iu w W (F.trans K) a cap Kq (some ⟨A,B,none⟩) Kj.length rc (some ⟨b,o,none⟩) dc l r xa xc d2 d1 e8 c6 j0 c9 d0 c7 hN (hS.kept (F.trans K)) d3 j2.o
 have⟨a8,HN,HS,j4,d5⟩:=jh F hN hS hR c7;have⟨f2,f3,j5⟩:=di c9 hr c8;clear hr c8;clear F j3 M hN hS hR c7 d3 t0 t1 t2 t3 t4 t5 t6 Y N Z;go_enter func58,ntmps58
 go_upto_region 1 with fail
 rw[<-T];clear T;let⟨Y,N,Z,_⟩:=E.o _ (K_.refl _);go_wp2_with fail
 refine (gY _ (some ⟨A,B,none⟩) Kj.length rc (some ⟨b,o,none⟩) dc l c5 d1 (HS.o.kept a8.o)).mono ?_;rintro e w1 ⟨⟨q1,rfl,f4⟩,K1⟩;obtain rfl:q1= (k:Int):=by
  rcases f4 with⟨a6,hj,j6,D,h2⟩|⟨_,D⟩
  .rw[j6];have f5:l.getD a6 Q_.zero=l.getD k Q_.zero:=by rw[f3.o] at D;rw[<-Nl D,j5.o]
   simp only[List.getD,Mq hj,Mq hk,NC] at f5;have f6:=congrArg Q_.name f5;have f7:=Mx.1 a5.asc;rcases Ny a6 k with j|j|j
   .exact NB f6 (dO (f7 a6 k hj hk j))
   .rw[j]
   .exact NB f6.symm (dO (f7 k a6 hk hj j))
  .rw[f3.o] at D;cases D
 clear f4 Y N Z;have m4:¬(k:Int)<0:=E5;have m5:(k:Int)<(l.length:Int):=E5;go_upto_region 2 with fail
 refine ik 12 E.o (K1.drew) λh=>?_;have x:=aY w1;generalize d6:w1.drew=G at h x⊢;clear d6;refine ak 0 h ?_;refine ak 4 h ?_;refine ae 8 h ?_;refine ae 9 h ?_;refine aG 10 λK f=>?_;go_simp
 go_at_call 113
 refine (f1.o G (K1.trans x)).mono ?_;rintro e w2 ⟨f8,f9⟩;have K2:=(K1.trans x).trans f9;rcases f8.cases with⟨rfl,_⟩|⟨rfl,j7⟩;rotate_left
 .exact NB d5.o j7
 clear f8 f9;dsimp only;refine f.out _ _ (λ_=>E.o _ K2) ?_;clear f K h x K1;have h:=E.o _ K2;try simp only[upP]
 refine ae 11 h ?_;refine ai 12 λK f=>?_;go_simp
 refine af f (λj=>NB rfl j) ?_;clear f K;refine aC ?_;clear h;go_upto_region 4 with fail
 go_cut [8,9] from 29 to 39 (λs8 s9 wx=>∃t q z C U kc,s8=.c t/\s9=.slice U (Xx (Kk Kq) (Qq l) r).2.length kc/\q= (Xx (Kk Kq) (Qq l) r).1/\K_ s wx/\s.heap.size<=t/\gV wx t q z C/\Strs wx z q.texts/\(z=none->C=0)/\Strs wx U (Xx (Kk Kq) (Qq l) r).2)
 case first=>
  refine ik 13 E.o (K2.drew) λh=>?_;have x:=aY w2;generalize d6:w2.drew=G at h x⊢;clear d6;refine ak 0 h ?_;refine ae 4 h ?_;refine ae 5 h ?_;refine ae 6 h ?_;refine fP 7 11 (λK f=>?_) (λK f=>?_)
  .rw[Nz F7];go_simp
   go_at_call 114
   refine (d4.o G (K2.trans x)).mono ?_;rintro e V ⟨⟨z,C,U,kc,rfl,L,X,H⟩,k3⟩;let⟨q,I⟩:=aj ((Xx (Kk Kq) (Qq l) r).1);let⟨asks,J⟩:=aj ((Xx (Kk Kq) (Qq l) r).2);rw[<-I] at L⊢;rw[<-J] at H⊢;have⟨HQ,HA,b5,a1,d7⟩:=jh I J L H X;clear L H X I J;dsimp only[Q_.cells];have O:=(K2.trans x).trans k3;refine f.out _ _ (λ_=>E.o _ O) ?_;clear f K h;have h:=E.o _ O;try simp only[upP]
   refine ae 8 h ?_;refine ae 9 h ?_;refine ae 10 h ?_;refine ai 11 λK f=>?_;go_simp
   have K4:K_ V (V.alloc (.cells #[.string ⟨#[]⟩,.bool false,.bool false,.string ⟨#[]⟩,.a 0,.a 0,M3] 48)):=ah _ _;refine af f (λ_=>E.o _ (O.trans K4)) ?_;clear f K;have P:ay (V.alloc (.cells #[.string ⟨#[]⟩,.bool false,.bool false,.string ⟨#[]⟩,.a 0,.a 0,M3] 48)) V.heap.size 48 7:=ay.made V _ _;have KE:=O.trans K4;have a9:=Kz (il.new b5.o.strs K4);have b0:=Kz (il.new a1.o.strs K4);have Q:=O.size;let⟨t,a7⟩:=aj V.heap.size;rw[<-a7] at P a9 b0 Q⊢;generalize b1:V.alloc (.cells #[.string ⟨#[]⟩,.bool false,.bool false,.string ⟨#[]⟩,.a 0,.a 0,M3] 48)=wE at P KE a9 b0⊢;clear b1 K4 a7 b5 a1;let⟨⟨⟨_,v0⟩,g0⟩,⟨⟨_,v1⟩,g2⟩,⟨⟨_,v2⟩,j8⟩,⟨⟨_,v3⟩,j9⟩,⟨⟨_,v4⟩,k0⟩,⟨⟨_,v5⟩,k1⟩,⟨_,v6⟩,k2⟩:=P.row.ED;have vz:=P.lt;refine ai 12 λK f=>?_;go_simp
   refine f.out _ _ ?_ ?_
   .exact λ_=>E.o _ (aP (g:=t) Q [.string q.name,.bool q.over,.bool q.fail,.string q.text,.a q.at',.a q.Zq,.slice z q.texts.length C] 0 KE)
   clear f K;try simp only[upP]
   refine ai 13 λK f=>?_;go_simp
   refine af f (λj=>NB rfl j) ?_;clear f K;refine aC ?_;go_wp2
   go_meet
   exact⟨t,q,z,C,U,kc,rfl,by rw[HA.o],HQ.o,aP (g:=t) Q [.string q.name,.bool q.over,.bool q.fail,.string q.text,.a q.at',.a q.Zq,.slice z q.texts.length C] 0 KE,Q,gV.laid P,a9.o.sets [.string q.name,.bool q.over,.bool q.fail,.string q.text,.a q.at',.a q.Zq,.slice z q.texts.length C] 0,d7.o,by rw[<-HA.o];exact b0.o.sets [.string q.name,.bool q.over,.bool q.fail,.string q.text,.a q.at',.a q.Zq,.slice z q.texts.length C] 0⟩
  .rw[Nz F7];go_simp
   have g4:K_ G (G.alloc (.cells #[.string ⟨#[]⟩,.bool false,.bool false,.string ⟨#[]⟩,.a 0,.a 0,M3] 48)):=ah _ _;have b6:=(K2.trans x).trans g4;have b7:ay (G.alloc (.cells #[.string ⟨#[]⟩,.bool false,.bool false,.string ⟨#[]⟩,.a 0,.a 0,M3] 48)) G.heap.size 48 7:=ay.made G _ _;have Q:=(K2.trans x).size;let⟨t,a7⟩:=aj G.heap.size;rw[<-a7] at b7 Q⊢;generalize b1:G.alloc (.cells #[.string ⟨#[]⟩,.bool false,.bool false,.string ⟨#[]⟩,.a 0,.a 0,M3] 48)=wF at b7 b6⊢;clear b1 g4 a7;refine af f (λ_=>E.o _ b6) ?_;clear f K;refine aG 7 λK f=>?_;go_simp
   go_at_call 114
   refine (d4.o wF b6).mono ?_;rintro e V ⟨⟨z,C,U,kc,rfl,L,X,H⟩,k3⟩;let⟨q,I⟩:=aj ((Xx (Kk Kq) (Qq l) r).1);let⟨asks,J⟩:=aj ((Xx (Kk Kq) (Qq l) r).2);rw[<-I] at L⊢;rw[<-J] at H⊢;have⟨HQ,HA,b5,a1,d7⟩:=jh I J L H X;clear L H X I J;dsimp only[Q_.cells];have O:=b6.trans k3;refine f.out _ _ (λ_=>E.o _ O) ?_;clear f K h;have h:=E.o _ O;try simp only[upP]
   refine ae 8 h ?_;refine ae 9 h ?_;refine ae 10 h ?_;have P:=b7.kept k3;have KE:=O;have m6:=b7.lt;have a9:=Kz (il.Mf (nb:=t) b5.o E5 E5);have b0:=Kz (il.Mf (nb:=t) a1.o E5 E5);let⟨⟨⟨_,v0⟩,g0⟩,⟨⟨_,v1⟩,g2⟩,⟨⟨_,v2⟩,j8⟩,⟨⟨_,v3⟩,j9⟩,⟨⟨_,v4⟩,k0⟩,⟨⟨_,v5⟩,k1⟩,⟨_,v6⟩,k2⟩:=P.row.ED;have vz:=P.lt;refine ai 12 λK f=>?_;go_simp
   refine f.out _ _ ?_ ?_
   .exact λ_=>E.o _ (aP (g:=t) Q [.string q.name,.bool q.over,.bool q.fail,.string q.text,.a q.at',.a q.Zq,.slice z q.texts.length C] 0 KE)
   clear f K;try simp only[upP]
   refine ai 13 λK f=>?_;go_simp
   refine af f (λj=>NB rfl j) ?_;clear f K;refine aC ?_;go_wp2
   go_meet
   exact⟨t,q,z,C,U,kc,rfl,by rw[HA.o],HQ.o,aP (g:=t) Q [.string q.name,.bool q.over,.bool q.fail,.string q.text,.a q.at',.a q.Zq,.slice z q.texts.length C] 0 KE,Q,gV.laid P,a9.o.sets [.string q.name,.bool q.over,.bool q.fail,.string q.text,.a q.at',.a q.Zq,.slice z q.texts.length C] 0,d7.o,by rw[<-HA.o];exact b0.o.sets [.string q.name,.bool q.over,.bool q.fail,.string q.text,.a q.at',.a q.Zq,.slice z q.texts.length C] 0⟩
 case rest=>
  obtain⟨t,q,z,C,U,kc,rfl,rfl,I,Kx,a7,e0,L,X,H⟩:=hcut;obtain⟨w4,rfl⟩:=aj wc;have b8:q.Good Kq:=by rw[I];exact dU c6 d0 f2.o d5.o
  have k4:=yF c6 d0 f2.o d5.o;let⟨asks,J⟩:=aj ((Xx (Kk Kq) (Qq l) r).2);rw[<-J] at k4 H⊢;have g6:Hid ((bT (Kk Kq) (dh l q) asks).foldl dh []=doL (Kk Kq) l r):=by show _=_;rw[J,I];rfl
  have g7:q.texts.length<=1000:=by have D:=b8.tl;have h2:=b8.hi;omega
  let⟨g8,g1,g9,g3,h0,g5,h1⟩:=e0.all;have gz:=e0.row.lt;have⟨a1,k5⟩:=aH H b8;have h4:Hid (∀W,K_ w4 W->Calls prog 115 #[.slice (some ⟨b,o,none⟩) l.length dc,.agg #[.string q.name,.bool q.over,.bool q.fail,.string q.text,.a q.at',.a q.Zq,.slice z q.texts.length C]] W λe w'=>∃v,e=.returned v/\Iy W w' (λ_=>True) v (dh l q)/\K_ W w'):=λW hW=>Cg W (some ⟨b,o,none⟩) dc l q z C E5 g7 a5.asc (λ_=>True) (λ_ _=>trivial) ((HS.o.kept (a8.o.trans (Kx.trans hW))).all) (L.kept hW) X
  let⟨Y,N,Z,_⟩:=E.o _ Kx;have k6:=Mk z0 Kx.size;have k7:=Mk z1 Kx.size;have b2:Hid (∀w',K_ w4 w'->M4 w' w.heap.size 0 (.slice a Kq.length cap)/\M4 w' (w.heap.size+1) 1 (.slice (some ⟨b,o,none⟩) l.length dc)/\M4 w' t 0 (.string q.name)/\M4 w' t 1 (.bool q.over)/\M4 w' t 2 (.bool q.fail)/\M4 w' t 3 (.string q.text)/\M4 w' t 4 (.a q.at')/\M4 w' t 5 (.a q.Zq)/\M4 w' t 6 (.slice z q.texts.length C)):=λw' K=>⟨(K.cell k6).trans Y,(K.cell k7).trans Z,(K.cell gz).trans g8,(K.cell gz).trans g1,(K.cell gz).trans g9,(K.cell gz).trans g3,(K.cell gz).trans h0,(K.cell gz).trans g5,(K.cell gz).trans h1⟩
  clear I J H b8 L X e0 g8 g1 g9 g3 h0 g5 h1 Y N Z d4 f1;go_upto_region 5 with fail
  refine bF 7 b2.o λG x h=>?_
  refine ak 0 h ?_;refine aG 4 λK f=>?_;go_simp
  go_at_call 115
  refine (h4.o G x).mono ?_;rintro e R ⟨v5,rfl,k8,k9⟩;have K5:=x.trans k9;let⟨w6,h5,b9,e1,e2,h6⟩:=k8;obtain⟨av,cv,rfl⟩:=aF e2;have⟨h7,h8⟩:=aH e2 h6;have h9:=Kz (HN.o.kept (a8.o.trans (Kx.trans (x.trans b9))));have i0:=Kz (a1.o.kept (x.trans b9));have i1:=Kz e1;have i2:=Kz (x.trans b9);have m7:=e1.size;clear e2 h6 b9 e1;refine f.out _ _ (λ_=>b2.o _ K5) ?_;clear f K h;have h:=b2.o _ K5;try simp only[upP]
  refine ae 5 h ?_;refine ai 6 λK f=>?_;go_simp
  have c0:K_ R (R.alloc (.cells #[.slice a Kq.length cap,.slice av (dh l q).length cv] 106)):=ah _ _;have c1:Hid (KnX w6 (R.alloc (.cells #[.slice a Kq.length cap,.slice av (dh l q).length cv] 106)) R.heap.size a Kq.length cap (dh l q) av cv h5):=⟨i1.o.trans c0,⟨ay.made R _ _,X_ R #[.slice a Kq.length cap,.slice av (dh l q).length cv] 106 0 _ rfl,X_ R #[.slice a Kq.length cap,.slice av (dh l q).length cv] 106 1 _ rfl⟩,au h7.o c0,h8.o⟩;have K7:=K5.trans c0;let⟨kb,i3⟩:=aj R.heap.size;have l0:w6.heap.size<=kb:=E5;refine f.out _ _ (λ_=>b2.o _ K7) ?_;clear f K h;rw[<-i3] at c1⊢;generalize b1:R.alloc (.cells #[.slice a Kq.length cap,.slice av (dh l q).length cv] 106)=w7 at c1 K7⊢;clear b1 c0 i3;try simp only[upP]
  refine ai 7 λK f=>?_;go_simp
  refine af f (λj=>NB rfl j) ?_;clear f K;refine aC ?_;go_wp2_with fail
  refine (zP w6 w7 kb l0 a cap Kq U kc asks (dh l q) av cv h5 d2 E5 (by have:=vN l q;omega) c1.o h9.o i0.o).mono ?_;rintro e w8 ⟨rfl,d8,e3,m8,b3⟩;have i4:=i2.o.trans b3.kw;have m1:=b3.known.runs;have kz:=b3.known.row.lt;have e4:=Kz b3.runs;let⟨a2,b4⟩:=aj (bT (Kk Kq) (dh l q) asks);have m9:a2.length<=1000:=by have D:=mQ (Kk Kq) asks (dh l q);have h2:=vN l q;rw[b4];omega
  have i5:Hid (∀c2∈a2,c2.texts.length<=1000):=λc2 hx=>by
   rw[b4] at hx;rcases uj _ _ _ _ hx with j|⟨n,rfl⟩
   .rcases su.1 j with rfl|⟨D,_⟩
    .exact g7
    .have h2:=(a5.good c2 D).tl;have h3:=(a5.good c2 D).hi;omega
   .exact Ml _
  have i6:Hid (a2.foldl dh []=doL (Kk Kq) l r):=by show _=_;rw[b4];exact g6.o
  rw[<-b4] at e4 m1;have K8:=Kx.trans i4;have l1:Hid (∀W,K_ w8 W->Calls prog 63 #[.slice (some ⟨A,B,none⟩) Kj.length rc,.slice d8 a2.length e3] W λe w'=>Ai Kj (doL (Kk Kq) l r) W w' e):=λW hW=>by
   have j:=rf W A B rc Kj d8 e3 a2 j1 E5 i5.o (λa6=>by have:=lh a2 a6;omega) (j4.o.kept (a8.o.trans (K8.trans hW))) (e4.o.kept hW);rw[i6.o] at j;exact j
  let⟨_,N,_⟩:=E.o _ K8;have l2:=Mk z1 K8.size;have i7:Hid (∀w',K_ w8 w'->M4 w' (w.heap.size+1) 0 (.slice (some ⟨A,B,none⟩) Kj.length rc)/\M4 w' kb 1 (.slice d8 a2.length e3)):=λw' K=>⟨(K.cell l2).trans N,(K.cell kz).trans m1⟩
  have i8:=Kz (f0.o.kept K8);have l3:=a8.o.trans K8;clear b3 b4 e4 i6 i5 g6 m1 N i4 c1 h9 i0 i1 i2 h7 h8 h4 b2 E f0 HN HS a1 k5;go_upto_region 7 with fail
  refine bF 7 i7.o λG x h=>?_
  refine ak 0 h ?_;refine ae 4 h ?_;refine ae 5 h ?_;refine aG 6 λK f=>?_;go_simp
  go_at_call 63
  refine (l1.o G x).mono ?_;rintro e w9 ⟨ra,a3,d9,a4,l4,rfl,i9,e5,e6,l5⟩;let⟨c3,e7⟩:=aj (doL (Kk Kq) l r);rw[<-e7] at e5 e6⊢;have l6:=Kz e7;have K9:=x.trans l5;have z9:=K9.size;have zd:=x.size;have⟨l7,l8,l9⟩:=di i9 e5 e6;have c4:=Kz (i8.o.kept K9);let⟨⟨_,x0⟩,g0⟩:=c4.o.row.at (i:=0) E5;let⟨⟨_,x1⟩,g2⟩:=c4.o.row.at (i:=1) E5;have n0:=i8.o.lt;have n1:=c4.o.lt;clear i9 e5 e6 e7;refine af f (λ_=>i7.o _ K9) ?_;clear f K h;refine ai 7 λK f=>?_;go_simp
  refine af f (λj=>NB rfl j) ?_;clear f K;refine aC ?_;go_wp2_with fail
  have m0:=Mo w9 (w.heap.size+1+1) 0 [.slice ra Kj.length a3,.slice d9 c3.length a4] (c4.o.row.there (o:=0) (m:=2) (Mj _));have hO:=bM (bM l8.o (p:=⟨w.heap.size+1+1,0,none⟩) (by show w.heap.size+1+1<_;omega) (.slice ra Kj.length a3)) (p:=⟨w.heap.size+1+1,1,none⟩) (by show w.heap.size+1+1<_;omega) (.slice d9 c3.length a4);have hT:=bM (bM l7.o (p:=⟨w.heap.size+1+1,0,none⟩) (by show w.heap.size+1+1<_;omega) (.slice ra Kj.length a3)) (p:=⟨w.heap.size+1+1,1,none⟩) (by show w.heap.size+1+1<_;omega) (.slice d9 c3.length a4);have hP:=(l9.o.set (c:=w.heap.size+1+1) (p:=0) (λb j=>E5) (.slice ra Kj.length a3)).set (c:=w.heap.size+1+1) (p:=1) (λb j=>E5) (.slice d9 c3.length a4);obtain rfl:=l6.o;exact Zx [.slice ra Kj.length a3,.slice d9 (doL (Kk Kq) l r).length a4] _ results58 rfl m0 underlying43 rfl Tryz.lH rfl ⟨ra,a3,d9,a4,l4,rfl,dN hT E5,dN hO E5,tF hP λb j=>E5,aP (g:=w.heap.size+1+1) E5 [.slice ra Kj.length a3,.slice d9 (doL (Kk Kq) l r).length a4] 0 (l3.trans K9)⟩
variable {base:Nat}
theorem mi{cap:Nat}(h:w.ownsRow base t 1 (.slice a n cap) n (l.map Value.string)):eX w t a l/\(a=none->cap=0)/\∀b:Addr,a=some b->base<=b.block:=by
 have k:n=l.length:=by have:=h.1;simp at this;omega
 rcases h.2 with⟨e,m⟩|⟨g,p,c,e,d,f,q,_,_,_⟩
 .simp only[Nb] at e;obtain⟨rfl,_,rfl⟩:=e;refine⟨.inl (MF.1 E5),λ_=>rfl,λ_ e=>by cases e⟩
 .simp only[Nb] at e;obtain⟨rfl,_,rfl⟩:=e;refine⟨.inr ⟨g,c,_,rfl,f,λi j=>?_⟩,λe=>(by cases e),λb e=>by cases e;exact d⟩;have:=h.cells (g:=g) rfl i (.string (l.getD i ByteArray.empty)) (by simp[List.getD,j]);rw[Nf,MR] at this;exact this
theorem gy(h:bE Kq 0):Kq.length<=60:=by
 rcases h with⟨_,h⟩|⟨_,_,h⟩|⟨_,_,_,h⟩|⟨_,_,_,_,h⟩|⟨h,_⟩
 .cases h
 .cases h
 .cases h
 .cases h
 .omega
theorem CU(h:bE Kq 0){k:Nat}(c:k<Kq.length):jo (Kq.getD k Qz.zero).name/\gQ ⟨(Kq.getD k Qz.zero).cost,(Kq.getD k Qz.zero).steps⟩:=by
 rcases h with⟨_,h⟩|⟨_,_,h⟩|⟨_,_,_,h⟩|⟨_,_,_,_,h⟩|⟨_,d,_,e,_⟩
 .cases h
 .cases h
 .cases h
 .cases h
 .refine⟨Classical.byContradiction λb=>d ⟨k,c,b⟩,Classical.byContradiction λb=>e ⟨k,c,b⟩⟩
theorem bV(h:bE Kq 0):bH (Kk Kq):=λn A c=>by
 obtain⟨k,d,e,_,rfl⟩:=fJ c;let⟨a,f⟩:=CU h d;rw[e] at a;exact⟨f,a⟩
theorem jZ(h:bE Kq 0):jl Kq:=λy d s e=>by
 obtain⟨k,a,rfl⟩:=MB d;have b:=(CU h a).2;simp only[List.getD,Mq a,NC] at b;obtain⟨i,f,rfl⟩:=MB e;have c:=iw (i:=(i:Int)) b E5 (by show (i:Int)<((Kq[k].steps.length:Nat):Int);omega);have j:stepOf ⟨Kq[k].cost,Kq[k].steps⟩ (i:Int)=Kq[k].steps[i]:=by simp[stepOf,List.getD,f]
 rw[j] at c;exact⟨E5,λx l=>by have:=(c.2 x l).2.1;omega⟩
structure ve (wr:NN)(xb:Nat)(Kj:List NL)(L:List Q_)(ra:NM)(rc:Nat)(d:NM)(dc:Nat):Prop where
 row:ay wr xb 43 2
 c0:wr.cell? ⟨xb,0,none⟩=some (.slice ra Kj.length rc)
 c1:wr.cell? ⟨xb,1,none⟩=some (.slice d L.length dc)
 rts:Strs wr ra Kj
 rns:bN wr d L
variable {Kj:List NL}{L:List Q_}{xb:Nat}{ra:NM}
theorem ve.kept{rc dc:Nat}{d:NM}(h:ve w xb Kj L ra rc d dc)(k:K_ w w'):ve w' xb Kj L ra rc d dc:=⟨h.row.kept k,(k.cell h.row.lt).trans h.c0,(k.cell h.row.lt).trans h.c1,h.rts.kept k,h.rns.kept k⟩
theorem ve.made{rc dc:Nat}{d:NM}(a:Strs w ra Kj)(b:bN w d L):ve (w.alloc (.cells #[.slice ra Kj.length rc,.slice d L.length dc] 43)) w.heap.size Kj L ra rc d dc:=⟨ay.made w _ _,X_ w #[.slice ra Kj.length rc,.slice d L.length dc] 43 0 _ rfl,X_ w #[.slice ra Kj.length rc,.slice d L.length dc] 43 1 _ rfl,a.kept (ah _ _),b.kept (ah _ _)⟩
theorem ve.laid{W:NN}{rc dc:Nat}{d:NM}{i:List NP}(f:xb<W.heap.size)(j:ay w' xb 43 2)(l:w'.ownsRow W.heap.size 9 1 (.slice ra Kj.length rc) Kj.length (Kj.map Value.string))(n:w'.ownsRow W.heap.size 48 7 (.slice d L.length dc) L.length i)(q:bI w' (λb=>W.heap.size<=b) i L):ve (w'.setCells xb 0 [.slice ra Kj.length rc,.slice d L.length dc]) xb Kj L ra rc d dc:=by
 have k:=Mo w' xb 0 [.slice ra Kj.length rc,.slice d L.length dc] (j.row.there (o:=0) (m:=2) (Mj _));refine⟨ay.sets _ _ j,k 0 _ rfl,k 1 _ rfl,?_,?_⟩
 .have h:=bM (bM l (p:=⟨xb,0,none⟩) f (.slice ra Kj.length rc)) (p:=⟨xb,1,none⟩) f (.slice d L.length dc);let⟨r,s,a,e⟩:=bO h;simp only[Nb,true_and] at a;rw[<-a.1] at e;exact e
 .have h:=bM (bM n (p:=⟨xb,0,none⟩) f (.slice ra Kj.length rc)) (p:=⟨xb,1,none⟩) f (.slice d L.length dc);have t:=(q.set (c:=xb) (p:=0) (λb v=>E5) (.slice ra Kj.length rc)).set (c:=xb) (p:=1) (λb v=>E5) (.slice d L.length dc);let⟨_,r,s,a,e⟩:=bI.runs h t (K_.refl _);simp only[Nb,true_and] at a;rw[<-a.1] at e;exact e.runs
theorem il.but(h:il w xb a l)(k:Xj xb (xb+1) w w'):il w' xb a l:=λi d=>by
 let⟨b,o,e,c,f,j⟩:=h i d;exact⟨b,o,e,Mk c k.size,f,by rw[MC (w:=w) (k.block b c E5)];exact j⟩
theorem il.owned{c:Nat}(h:w.ownsRow base t 1 (.slice a l.length c) l.length (l.map Value.string))(j:xb<base):il w xb a l:=by
 rcases h.2 with⟨e,d⟩|⟨g,k,m,e,n,f,p,_,_,_⟩
 .intro i b;rw[d] at b;exact aO b
 .intro i b;simp only[Nb] at e;obtain⟨rfl,_,rfl⟩:=e;refine⟨g,0,rfl,aM f,E5,?_⟩;have:=h.cells (g:=g) rfl i (.string (l.getD i ByteArray.empty)) (by simp[List.getD,b]);rw[Nf] at this;exact this
theorem Xj.sets{lo hi:Nat}{a:NN}{g:Nat}(b:lo<=g)(h2:g<hi):∀(vs:List NP)(o:Nat){u:NN},Xj lo hi a u->Xj lo hi a (u.setCells g o vs)
 |[],_,_,h=>h
 |v :: r,o,_,h=>by rw[World.setCells];exact Xj.sets b h2 r (o+1) (h.setCell (p:=⟨g,o,none⟩) b h2 v)
def bR(Kq:List Qz)(Kj:List NL)(sl:List Q_):Prop:=bE Kq 0/\eP Kj/\sl.length<=Kq.length/\EN Kq Kj sl
structure DX (Kq:List Qz)(Kj:List NL)(sl:List Q_)(L:List Q_)(bb:Bool)(gg:Nat):Prop where
 good:dW Kq L
 led:∃k,bf (Behind (W:=Kk Kq) bL (Qq sl)) (doX (Kk Kq)) (Qq (bu Kq Kj)) (Qq L) k
 fin:bb=false->AtEnd (Behind (W:=Kk Kq) bL (Qq sl)) (Qq L)
 pot:gg=2*vM Kq L+(if bb=true then 1 else 0)
theorem DX.begin(a:bE Kq 0)(Kj:List NL)(b:List Q_):DX Kq Kj b (bu Kq Kj) true (2*vM Kq (bu Kq Kj)+1):=⟨gX (bV a) Kj,⟨0,.here _⟩,λh=>(by cases h),rfl⟩
theorem DX.next{c a:List Q_}{d:List NL}{b:Bool}{e:Nat}(f:DX Kq Kj c a true e)(i:dA (Kk Kq) (Qq a) a d)(h:gT Kq (Qq c) (Qq (bu Kq Kj)) d a L d.length b):DX Kq Kj c L b (2*vM Kq L+(if b=true then 1 else 0))/\2*vM Kq L+(if b=true then 1 else 0)<e:=by
 refine⟨⟨h.good,h.led,λj=>?_,rfl⟩,?_⟩
 .subst j;exact (h.JG f.good i).2
 .rw[f.pot];cases b with
  |true=>have:=h.yes rfl;simp only[if_true];omega
  |false=>rw[(h.no rfl).1];simp
theorem vC{G:Env}{n:NL}(h:G n=none):¬Behind (W:=Kk Kq) bL G σ n:=λc=>by
 let⟨_,g,_,a,_⟩:=c.2;rw[h] at a;cases a
theorem rq{G:Env}{n:NL}{g:Q_}(c:σ n=some r)(d:G n=some g)(h:¬bL r g):¬Behind (W:=Kk Kq) bL G σ n:=λe=>by
 let⟨i,j,a,b,f⟩:=e.2;rw[c] at a;rw[d] at b;cases a;cases b;exact h f
structure But (S:Nat->Prop)(w w':NN):Prop where
 os:w'.os=w.os
 tape:w'.tape=w.tape
 output:w'.output=w.output
 size:w.heap.size<=w'.heap.size
 block:∀b,b<w.heap.size->¬S b->w'.heap[b]? =w.heap[b]?
section
variable {S:Nat -> Prop}{w w' w'' wz:NN}
theorem But.ax(h:K_ w w'):But S w w':=⟨h.os,h.tape,h.output,h.size,λb c _=>h.block b c⟩
theorem But.aI{row:Option Nat}(h:w.grownBy w' row)(c:∀b,row=some b->S b):But S w w':=⟨h.os,h.tape,h.output,h.size,λb d e=>h.block b d λf=>e (c b f.symm)⟩
theorem But.trans(h:But S w w')(k:But S w' w''):But S w w'':=⟨k.os.trans h.os,k.tape.trans h.tape,k.output.trans h.output,Mm h.size k.size,λb c d=>(k.block b (Mk c h.size) d).trans (h.block b c d)⟩
theorem But.set(h:But S w w'){p:Addr}(c:S p.block)(v:NP):But S w (w'.setCell p v):=⟨h.os,h.tape,h.output,by rw[size_setCell];exact h.size,λd e b=>by rw[Below.heap_setCell _ _ _ _ λf=>b (by rw[f];exact c)];exact h.block d e b⟩
theorem But.mono{a:Nat->Prop}(h:But S w w')(d:∀b,b<w.heap.size->S b->a b):But a w w':=⟨h.os,h.tape,h.output,h.size,λb c e=>h.block b c λf=>e (d b c f)⟩
theorem But.kept(h:But S w w')(k:K_ wz w)(d:∀b,S b->wz.heap.size<=b):K_ wz w':=⟨h.os.trans k.os,h.tape.trans k.tape,h.output.trans k.output,Mm k.size h.size,λb c=>(h.block b (Mk c k.size) λe=>by have:=d b e;omega).trans (k.block b c)⟩
theorem But.cell(h:But S w w'){o:Nat}(c:b<w.heap.size)(d:¬S b):w'.cell? ⟨b,o,none⟩=w.cell? ⟨b,o,none⟩:=MC (w:=w) (h.block b c d)
theorem But.row(h:But S w w')(a:ay w b t n)(d:¬S b):ay w' b t n:=a.block (h.block b a.lt d)
theorem But.range(h:But S w w'){o:Nat}(c:ay w b t n)(d:¬S b){cs:List NP}(e:w.rangeAt b o cs):w'.rangeAt b o cs:=λj v i=>(h.cell c.lt d).trans (e j v i)
theorem But.owns(h:But S w w'){size:Nat}{e:TypeId}{v:NP}{a:List NP}(c:w.ownsRow base e size v n a)(f:∀b,v.ownBlock=some b->¬S b):w'.ownsRow base e size v n a:=by
 refine⟨c.1,?_⟩;rcases c.2 with i|⟨g,j,k,rfl,l,d,rest⟩
 .exact .inl i
 .exact .inr ⟨g,j,k,rfl,l,by rw[h.block g (aM d) (f g rfl)];exact d,rest⟩
end
def bA(w:NN)(b:Nat)(t:TypeId):Prop:=∃cur fr,w.heap[b]? =some (Obj.cells cur t fr)
theorem ay.type(h:ay w b t n):bA w b t:=let ⟨cur,h1,_⟩:=h;⟨cur,_,h1⟩
theorem Y_{size:Nat}{e:TypeId}{v:NP}{c:List NP}(h:w.ownsRow base e size v n c)(a:v.ownBlock=some b):bA w b e:=by
 rcases h.2 with⟨rfl,_⟩|⟨g,i,d,rfl,_,f,_⟩
 .cases a
 .simp only[Value.ownBlock,Na] at a;subst a;exact⟨d,_,f⟩
theorem aU{c:Nat}{u:TypeId}(h:bA w b t)(k:bA w c u)(d:t≠u):b≠c:=by
 rintro rfl;let⟨f,i,e⟩:=h;let⟨j,l,a⟩:=k;rw[e] at a;simp only[Na,Obj.cells.injEq] at a;exact d a.2.1
structure Zk where
 tb:Nat
 r:Q_
 cost:Int
 steps:List Xq
 sa:NM
 sc:Nat
 op:Nat
 tv:NP
 qv:NP
 qs:List NP
 bl:NL
def Zk.cells(t:Zk):List NP:=[.string t.r.name,.bool t.r.over,.bool t.r.fail,.string t.r.text,.a t.r.at',.a t.r.Zq,t.tv,.a t.cost,.slice t.sa t.steps.length t.sc,.a (t.op:Int),t.qv,.string t.bl]
def Zk.ptr(t:Zk):NP:=.c t.tb
def Zk.own(t:Zk):List Nat:=t.tv.ownBlock.toList++t.qv.ownBlock.toList
def xX(b:Nat):NP:=.c b
structure kN (base:Nat)(w:NN)(t:Zk):Prop where
 row:ay w t.tb 118 12
 rng:w.rangeAt t.tb 0 t.cells
 txt:w.ownsRow base 9 1 t.tv t.r.texts.length (t.r.texts.map Value.string)
 ask:w.ownsRow base 9 1 t.qv t.qs.length t.qs
 low:base<=t.tb
theorem kN.fB{t:Zk}(h:kN base w t){x:Nat}(a:x∈t.own):bA w x 9/\base<=x/\x<w.heap.size:=by
 unfold Zk.own at a;rcases Mv.1 a with a|a
 .have e:=MV.1 a;exact⟨Y_ h.txt e,h.txt.lt x e⟩
 .have e:=MV.1 a;exact⟨Y_ h.ask e,h.ask.lt x e⟩
variable {S:Nat -> Prop}
theorem kN.but{t:Zk}(h:kN base w t)(k:But S w w')(d:¬S t.tb)(h2:∀x∈t.own,¬S x):kN base w' t:=⟨k.row h.row d,k.range h.row d h.rng,k.owns h.txt λb c=>h2 b (Mv.2 (.inl (MV.2 c))),k.owns h.ask λb c=>h2 b (Mv.2 (.inr (MV.2 c))),h.low⟩
def asIs(v:NP):Option (DataW NP×List MemPlace):=some (.held v,[])
def dL(s:NL):Lit:=.string s.data.toList
def Qj(ts:List Zk):List Q_:=ts.map (·.r)
structure cZ where
 wo:NN
 K:Nat->Prop
 ps:List (Nat×NL)
 I:Nat->Prop
def cZ.no(w:NN):cZ:=⟨w,λ_=>False,[],λ_=>False⟩
structure Fen (G:cZ)(w:NN)(bb mb:Nat)(ts:List Zk)(f:NL->NP):Prop where
 size:G.wo.heap.size<=w.heap.size
 lt:∀k,G.K k->k<G.wo.heap.size
 same:∀k,G.K k->w.heap[k]? =G.wo.heap[k]?
 nb:¬G.K bb
 nm:¬G.K mb
 nt:∀t∈ts,¬G.K t.tb/\∀x∈t.own,¬G.K x
 nf:∀s x,(f s).ownBlock=some x->¬G.K x
 has:∀p∈G.ps,∃t∈ts,t.tb=p.1/\t.r.name=p.2
variable {mb:Nat}
theorem Fen.but{G:cZ}{bb:Nat}{ts:List Zk}{f:NL->NP}(h:Fen G w bb mb ts f)(k:But S w w')(d:∀b,S b->¬G.K b):Fen G w' bb mb ts f:=⟨Mm h.size k.size,h.lt,λb c=>(k.block b (Mk (h.lt b c) h.size) λe=>d b e c).trans (h.same b c),h.nb,h.nm,h.nt,h.nf,h.has⟩
theorem Fen.far{G:cZ}{bb:Nat}{ts:List Zk}{f:NL->NP}(h:Fen G w bb mb ts f){x:Nat}(c:w.heap.size<=x):¬G.K x:=λb=>by
 have d:=h.lt x b;have e:=h.size;omega
theorem Fen.no{bb:Nat}{ts:List Zk}{f:NL->NP}(h:w.heap.size<=w'.heap.size):Fen (cZ.no w) w' bb mb ts f:=⟨h,λ_ e=>e.elim,λ_ e=>e.elim,id,id,λ_ _=>⟨id,λ_ _=>id⟩,λ_ _ _=>id,λ_ h=>(by cases h)⟩
structure BM (G:cZ)(Kq:List Qz)(wz w:NN)(bb:Nat)(a:NM)(cap:Nat)(rd:NM)(rn rc:Nat)(mb mx:Nat)(ts:List Zk)(d:NM)(dc:Nat)(f:NL->NP)(ws:NL->List Nat):Prop where
 kw:K_ wz w
 row:ay w bb 156 6
 c0:w.cell? ⟨bb,0,none⟩=some (.slice a Kq.length cap)
 c1:w.cell? ⟨bb,1,none⟩=some (.func (.func 89) #[] #[])
 c2:w.cell? ⟨bb,2,none⟩=some (.slice rd rn rc)
 c3:w.cell? ⟨bb,3,none⟩=some (.slice d ts.length dc)
 c4:w.cell? ⟨bb,4,none⟩=some (.func (.func 100) #[] #[])
 c5:w.cell? ⟨bb,5,none⟩=some (.map (some mb))
 low:wz.heap.size<=bb
 items:w.ownsRow wz.heap.size 116 1 (.slice d ts.length dc) ts.length (ts.map Zk.ptr)
 eZ:∀t∈ts,kN wz.heap.size w t
 act:∀t∈ts,Kk Kq t.r.name=some ⟨t.cost,t.steps⟩/\Steps wz t.sa t.steps
 asc:dB (Qj ts)
 tbs:(ts.map (·.tb)).Nodup
 sep:ts.Pairwise λt u=>∀x∈t.own,x∉u.own
 yX:∀t∈ts,t.own.Nodup
 map:∃N D,N<=mx/\w.ownsMap prog 9 asIs mb N D/\∀s:NL,s.size<=maxLen->D.atKey (dL s) (.held M3)=.held (f s)
 Bq:wz.heap.size<=mb
 jf:∀s,w.ownsRow wz.heap.size 116 1 (f s) (ws s).length ((ws s).map xX)
 yU:∀s s',s≠s'->∀x,(f s).ownBlock=some x->(f s').ownBlock≠some x
 Bn:∀s x,(f s).ownBlock=some x->(Value.slice d ts.length dc).ownBlock≠some x
 qb:∀t∈ts,t.qs.length<=5*mx
 oth:Fen G w bb mb ts f
 gi:∀x,(Value.slice d ts.length dc).ownBlock=some x->¬(G.I x/\G.K x)
theorem iQ{N:Nat}{D:DataW NP}(h:w.ownsMap prog 9 asIs mb N D)(k:But S w w')(d:¬S mb):w'.ownsMap prog 9 asIs mb N D:=by
 let⟨e,f,b,F,i,j⟩:=h;exact⟨e,f,by rw[k.block mb (aM b) d];exact b,F,i,j⟩
theorem iC{N:Nat}{D:DataW NP}(h:w.ownsMap prog 9 asIs mb N D)(k:bA w b t):b≠mb:=by
 rintro rfl;let⟨d,e,c,_⟩:=h;let⟨f,i,a⟩:=k;rw[c] at a;cases a
section
variable {G:cZ}{Kq:List Qz}{wz w w':NN}{bb:Nat}{a:NM}{cap:Nat}{rd:NM}{rn rc:Nat}{mb mx:Nat}{ts:List Zk}{d:NM}{dc:Nat}{f:NL -> NP}{ws:NL -> List Nat}
theorem BM.but(h:BM G Kq wz w bb a cap rd rn rc mb mx ts d dc f ws)(k:But S w w')(l:∀b,S b->wz.heap.size<=b)(c:¬S bb)(h2:¬S mb)(m:∀b,(Value.slice d ts.length dc).ownBlock=some b->¬S b)(n:∀s b,(f s).ownBlock=some b->¬S b)(j:∀t∈ts,¬S t.tb/\∀x∈t.own,¬S x)(p:∀b,S b->¬G.K b):BM G Kq wz w' bb a cap rd rn rc mb mx ts d dc f ws:=by
 have e:=h.row.lt;refine⟨k.kept h.kw l,k.row h.row c,(k.cell e c).trans h.c0,(k.cell e c).trans h.c1,(k.cell e c).trans h.c2,(k.cell e c).trans h.c3,(k.cell e c).trans h.c4,(k.cell e c).trans h.c5,h.low,k.owns h.items m,λt i=>(h.eZ t i).but k (j t i).1 (j t i).2,h.act,h.asc,h.tbs,h.sep,h.yX,?_,h.Bq,λs=>k.owns (h.jf s) (n s),h.yU,h.Bn,h.qb,h.oth.but k p,h.gi⟩;let⟨N,D,q,r,v⟩:=h.map;exact⟨N,D,q,iQ r k h2,v⟩
theorem BM.kept(h:BM G Kq wz w bb a cap rd rn rc mb mx ts d dc f ws)(k:K_ w w'):BM G Kq wz w' bb a cap rd rn rc mb mx ts d dc f ws:=h.but (S:=λ_=>False) (But.ax k) (λ_ h=>h.elim) id id (λ_ _=>id) (λ_ _ _=>id) (λ_ _=>⟨id,λ_ _=>id⟩) λ_ h=>h.elim
theorem BM.more{c:Nat}(h:BM G Kq wz w bb a cap rd rn rc mb mx ts d dc f ws)(e:mx<=c):BM G Kq wz w bb a cap rd rn rc mb c ts d dc f ws:=⟨h.kw,h.row,h.c0,h.c1,h.c2,h.c3,h.c4,h.c5,h.low,h.items,h.eZ,h.act,h.asc,h.tbs,h.sep,h.yX,(by let⟨N,D,j,k⟩:=h.map;exact⟨N,D,Mm j e,k⟩),h.Bq,h.jf,h.yU,h.Bn,λt m=>Mm (h.qb t m) (Nat.mul_le_mul_left 5 e),h.oth,h.gi⟩
theorem bW{α:Type}{l:List α}{i:Nat}(h:i<l.length):l[i]∈l:=Mw h
theorem pg{t':Zk}{i:Nat}(_hi:i<ts.length):Qj (ts.set i t')= (Qj ts).set i t'.r:=by simp[Qj,List.map_set]
theorem Ad{l:List Q_}{i:Nat}{b:Q_}(h:dB l)(hi:i<l.length)(c:b.name=l[i].name):dB (l.set i b):=by
 unfold dB at h⊢;rw[Mx] at h⊢;intro p q d f k;rw[Nu] at d f;rw[NK,NK];have:=h p q d f k
 split<;>split
 .omega
 .rename_i e _;subst e;rw[c];exact this
 .rename_i _ e;subst e;rw[c];exact this
 .exact this
theorem BM.turn(h:BM G Kq wz w bb a cap rd rn rc mb mx ts d dc f ws){i:Nat}(hi:i<ts.length)(k:But S w w')(y:∀b,S b->b=ts[i].tb\/b∈ts[i].own){t':Zk}(W:kN wz.heap.size w' t')(D:t'.tb=ts[i].tb)(I:t'.r.name=ts[i].r.name)(J:t'.cost=ts[i].cost)(X:t'.steps=ts[i].steps)(Y:t'.sa=ts[i].sa)(L:∀x∈t'.own,x∈ts[i].own\/w.heap.size<=x)(Z:t'.own.Nodup)(a0:t'.qs.length<=5*mx):BM G Kq wz w' bb a cap rd rn rc mb mx (ts.set i t') d dc f ws:=by
 have z:=h.row.lt;have q:=h.eZ ts[i] (bW hi);have s:(ts.set i t').length=ts.length:=Nu ..;have M:∀{b:Nat}{u:TypeId},bA w b u->u≠118->u≠9->¬S b:=λl h1 h2 n=>by
  rcases y _ n with e|e
  .exact aU l q.row.type h1 e
  .exact aU l (q.fB e).1 h2 rfl
 have hm:=h.map;obtain⟨a1,a2,hN,N,hf⟩:=hm;have a3:¬S mb:=λn=>by
  rcases y _ n with e|e
  .exact iC N q.row.type e.symm
  .exact iC N (q.fB e).1 rfl
 have t:¬S bb:=M h.row.type E8 E8;have other:∀(j:Nat)(c:j<ts.length),j≠i->¬S ts[j].tb/\∀x∈ts[j].own,¬S x:=λj c p=>by
  have Q:=h.eZ ts[j] (bW c);refine⟨λn=>?_,λx m n=>?_⟩
  .rcases y _ n with e|e
   .have R:=Mx.1 h.tbs;rcases Nat.lt_or_gt_of_ne p with v|v
    .have:=R j i (by simpa using c) (by simpa using hi) v;simp at this;exact this e
    .have:=R i j (by simpa using hi) (by simpa using c) v;simp at this;exact this e.symm
   .exact aU Q.row.type (q.fB e).1 E8 rfl
  .rcases y _ n with e|e
   .exact aU (Q.fB m).1 q.row.type E8 e
   .have A:=Mx.1 h.sep;rcases Nat.lt_or_gt_of_ne p with v|v
    .exact A j i c hi v x m e
    .exact A i j hi c v x e m
 have mem:∀u∈ts.set i t',u=t'\/∃(j:Nat)(c:j<ts.length),j≠i/\u=ts[j]:=λu l=>by
  obtain⟨j,c,rfl⟩:=MB l;rw[s] at c;rw[NK]
  split
  .exact .inl rfl
  .rename_i e;exact .inr ⟨j,c,Ne.symm e,rfl⟩
 have a4:∀b,S b->wz.heap.size<=b:=λb n=>by
  rcases y b n with e|e
  .rw[e];exact q.low
  .exact (q.fB e).2.1
 have a5:∀b,S b->¬G.K b:=λb n=>by
  rcases y b n with e|e
  .rw[e];exact (h.oth.nt _ (bW hi)).1
  .exact (h.oth.nt _ (bW hi)).2 b e
 have a6:Fen G w' bb mb (ts.set i t') f:=by
  have B:=h.oth.but k a5;refine⟨B.size,B.lt,B.same,B.nb,B.nm,λu l=>?_,B.nf,λE C=>?_⟩;rotate_left
  .obtain⟨u,l,T,F⟩:=h.oth.has E C;obtain⟨j,c,rfl⟩:=MB l;by_cases e:j=i
   .subst e;exact⟨t',List.mem_set c _,by rw[D];exact T,by rw[I];exact F⟩
   .refine⟨ts[j],?_,T,F⟩;have J:(ts.set i t')[j]'(by rw[s];exact c)=ts[j]:=by rw[NK,NA (Ne.symm e)]
    rw[<-J];exact Mw _
  rcases mem u l with rfl|⟨j,c,p,rfl⟩
  .refine⟨by rw[D];exact (h.oth.nt _ (bW hi)).1,λx m=>?_⟩;rcases L x m with g|g
   .exact (h.oth.nt _ (bW hi)).2 x g
   .exact h.oth.far g
  .exact h.oth.nt _ (bW c)
 refine⟨k.kept h.kw a4,k.row h.row t,(k.cell z t).trans h.c0,(k.cell z t).trans h.c1,(k.cell z t).trans h.c2,by rw[s];exact (k.cell z t).trans h.c3,(k.cell z t).trans h.c4,(k.cell z t).trans h.c5,h.low,?_,?_,?_,?_,?_,?_,?_,⟨a1,a2,hN,iQ N k a3,hf⟩,h.Bq,λU=>k.owns (h.jf U) λb e=>M (Y_ (h.jf U) e) E8 E8,h.yU,by rw[s];exact h.Bn,λu l=>by rcases mem u l with rfl|⟨j,c,p,rfl⟩;exact a0;exact h.qb _ (bW c),a6,by rw[s];exact h.gi⟩
 .have e:(ts.set i t').map Zk.ptr=ts.map Zk.ptr:=by
   rw[List.map_set];have O:t'.ptr= (ts.map Zk.ptr)[i]'(by simpa using hi):=by simp[Zk.ptr,D]
   rw[O,List.set_getElem_self]
  rw[s,e];exact k.owns h.items λb e=>M (Y_ h.items e) E8 E8
 .intro u l;rcases mem u l with rfl|⟨j,c,p,rfl⟩
  .exact W
  .exact (h.eZ _ (bW c)).but k (other j c p).1 (other j c p).2
 .intro u l;rcases mem u l with rfl|⟨j,c,p,rfl⟩
  .rw[I,J,X,Y];exact h.act _ (bW hi)
  .exact h.act _ (bW c)
 .rw[pg hi];exact Ad h.asc (by simpa[Qj] using hi) (by simp[Qj,I])
 .have e:(ts.set i t').map (·.tb)=ts.map (·.tb):=by
   rw[List.map_set];have O:t'.tb= (ts.map (·.tb))[i]'(by simpa using hi):=by simp[D]
   rw[O,List.set_getElem_self]
  rw[e];exact h.tbs
 .rw[Mx];have A:=Mx.1 h.sep;intro E V C H P x m;rw[s] at C H;rw[NK] at m⊢
  split at m
  .rename_i e
   subst e;rw[NA E5];rcases L x m with g|g
   .exact A i V hi H P x g
   .intro F;have:=((h.eZ _ (bW H)).fB F).2.2;omega
  .split
   .rename_i e
    subst e;intro g;rcases L x g with g|g
    .exact A E i C hi P x m g
    .have:=((h.eZ _ (bW C)).fB m).2.2;omega
   .exact A E V C H P x m
 .intro u l;rcases mem u l with rfl|⟨j,c,p,rfl⟩
  .exact Z
  .exact h.yX _ (bW c)
end
def Ae(W:dC)(r:Q_)(bl:NL):Prop:=(bl= ⟨#[]⟩/\(r.over=true->r.fail=true->r.text=iT\/∃A,W r.name=some A/\(stepOf A r.at').fin=true))\/
 (r.over=true/\r.fail=true/\(∃A,W r.name=some A/\(stepOf A r.at').fin=false/\bl∈(stepOf A r.at').asks)/\r.text= (⟨#[98,101,108,111,119,32]⟩:NL)++bl)
theorem Ae.open{b:NL}(h:Ae W r b)(c:r.over=false):b= ⟨#[]⟩:=by
 rcases h with h|⟨h,_⟩
 .exact h.1
 .rw[c] at h;cases h
theorem Ae.still{a:NL}(c:a= ⟨#[]⟩)(d:r.over=false):Ae W r a:=.inl ⟨c,λh=>by rw[d] at h;cases h⟩
def xh(W:dC)(σ:Env)(r:Q_)(qs:List NP):Prop:=∃L,jX W σ r L/\qs=L.map Value.string
theorem xh.mono{m:NL}{a:List NP}(h:xh W σ r a)(c:bn W σ m):xh W (doX W σ m) r a:=by
 let⟨L,e,f⟩:=h;exact⟨L,e.mono c,f⟩
theorem xh.unit{a:List NP}(h:xh W σ r a)(c:aS W σ r):xh W σ (Xx W σ r).1 (a++(Xx W σ r).2.map Value.string):=by
 let⟨L,d,e⟩:=h;exact⟨_,d.unit c,by rw[e,ND]⟩
theorem xh.still{a:List NP}(b:a=[])(c:r=Q_.fresh r.name):xh W σ r a:=⟨[],by rw[c];exact jX.start _,b⟩
def Zk.bq(t:Zk):NL×List NP:=(t.bl,t.qs)
structure BS (Kq:List Qz)(ts:List Zk)(ws:NL->List Nat):Prop where
 good:dW Kq (Qj ts)
 op:∀t∈ts,t.op= (pend (Kk Kq) (Qq (Qj ts)) t.r).length
 wt:∀s,∀t∈ts,(t.tb∈ws s↔s∈pend (Kk Kq) (Qq (Qj ts)) t.r)
 wn:∀s,(ws s).Nodup
 ww:∀s b,b∈ws s->∃t∈ts,t.tb=b
 bl:∀t∈ts,Ae (Kk Kq) t.r t.bl
 qs:∀t∈ts,xh (Kk Kq) (Qq (Qj ts)) t.r t.qs
def jW(w:NN)(xs:List NP)(l:List Qz):Prop:=xs.length=l.length/\∀i,i<l.length->∃tb cur fr,xs[i]? =some (.c tb)/\w.heap[tb]? =some (Obj.cells cur 118 fr)/\w.cell? ⟨tb,0,none⟩=some (.string (l.getD i Qz.zero).name)
theorem jW.kept{w w':NN}{b:List NP}{l:List Qz}(h:jW w b l)(k:K_ w w'):jW w' b l:=⟨h.1,λi d=>by
  let⟨c,e,f,j,a,m⟩:=h.2 i d;exact⟨c,e,f,j,by rw[k.block c (aM a)];exact a,(k.cell (aM a)).trans m⟩⟩
def uh(w:NN)(a:NM)(xs:List NP):Prop:=∀i,i<xs.length->∃b o,a=some ⟨b,o,none⟩/\b<w.heap.size/\∀j u,xs[j]? =some u->w.cell? ⟨b,o+j,none⟩=some u
theorem uh.kept{w w':NN}{a:NM}{b:List NP}(h:uh w a b)(k:K_ w w'):uh w' a b:=by
 intro i d;let⟨f,o,e,c,j⟩:=h i d;exact⟨f,o,e,Mk c k.size,λl u m=>(k.cell c).trans (j l u m)⟩
theorem ed{w:NN}{base n:Nat}{t:TypeId}{a:NM}{cap:Nat}{b:List NP}(h:w.ownsRow base t 1 (.slice a n cap) n b):uh w a b:=by
 have j:b.length=n:=by have:=h.1;omega
 rcases h.2 with⟨e,k⟩|⟨g,l,m,e,p,c,q,_,_,_⟩
 .exact λi d=>E5
 .simp only[Nb] at e;obtain⟨rfl,_,rfl⟩:=e;refine λi d=>⟨g,0,rfl,aM c,λr u f=>?_⟩
  have:=h.cells (g:=g) rfl _ _ f;rw[Nf] at this;exact this
theorem vS(w:NN)(tb:Nat)(n:NL)(a:w.cell? ⟨tb,0,none⟩=some (.string n)):Calls prog 100 #[.c tb] w λe w'=>e=.returned (.string n)/\w'=w:=by
 go_enter func100,ntmps100
 go_wp2
 go_ret
 exact⟨rfl,rfl⟩
theorem rX(w:NN)(g:Nat)(n:NL)(tb:Nat)(a:NL)(c:g<w.heap.size)(d:tb<w.heap.size)(b:w.cell? ⟨tb,0,none⟩=some (.string n))(f:w.cell? ⟨g,1,none⟩=some (.func (.func 100) #[] #[])):Calls prog 215 #[.c tb,.string a,.c g] w λe w'=>e=.returned (.a (kJ n.toList a.toList))/\K_ w w':=by
 go_enter func215,ntmps215
 go_wp2_with fail
 refine (vS _ tb n b).mono ?_;rintro e h ⟨rfl,rfl⟩;go_wp2_with fail
 refine (qf _ n a).mono ?_;rintro e i ⟨rfl,rfl⟩;go_wp2
 go_ret
 exact⟨rfl,K_.refl _⟩
theorem Db(w:NN)(g:Nat)(a:NM)(cap:Nat)(l:List Qz)(c:NL)(hl:l.length<=1048576)(Q:f_ l)(C:g<w.heap.size)(R:w.cell? ⟨g,1,none⟩=some (.func (.func 100) #[] #[]))(S:List NP)(D:jW w S l)(T:uh w a S):Calls prog 214 #[.slice a l.length cap,.string c,.func (.func 215) #[] #[.c g]] w
   λe w'=>Found l c.toList e/\K_ w w':=by
 have U:=Kz Q;clear Q;go_enter func214,ntmps214
 go_wp2
 go_loopw [9,10] (λH I wr=>∃i j:Nat,H=.a i/\I=.a j/\i<=j/\j<=l.length/\(∀t,t<i->Op.bytesLess (nameAt l t) c.toList=true)/\(∀t,j<=t->t<l.length->Op.bytesLess (nameAt l t) c.toList=false)/\K_ w wr) (λH I _=>(intOf I).toNat-(intOf H).toNat)
 case atStart=>exact⟨0,l.length,rfl,rfl,Ml _,Mj _,λt V=>aO V,λt h1 W=>E5,K_.refl _⟩
 case round=>
  obtain⟨i,j,rfl,rfl,a6,X,p,q,d⟩:=hrel;have r:=Kz (And.intro p q);clear p q;by_cases a7:(i:Int)<j
  .obtain⟨h,Y⟩:∃h:Nat,h= (i+j) / 2:=⟨_,rfl⟩;have J:h<l.length:=E5;have a1:i<=h:=E5;have a8:h<j:=E5;obtain⟨b,o,rfl,hb,s⟩:=T.kept d h (by rw[D.1];exact J);let⟨v,a2,fr,x,y,k⟩:=(D.kept d).2 h J;let⟨f,m⟩:=aj (l.getD h Qz.zero);rw[<-m] at k;have K:=Kz m;have L:=s _ _ x;have z:M4 wr v 0 (.string f.name):=k;have M:=aM y;clear m s k x y;have a9:((i:Int)+(j:Int)) / 2= (h:Int):=E5;have HH:=Kz Y;clear Y;have N:=Mk C d.size;have O:wr.cell? ⟨g,1,none⟩=some (.func (.func 100) #[] #[]):=by rw[d.cell C];exact R
   go_wp2_with fail
   refine (rX _ g f.name v c N M z O).mono ?_;rintro e w1 ⟨rfl,A⟩;have B:nameAt l h=f.name.toList:=by unfold nameAt;rw[<-K.o]
   have E:Hid (kJ f.name.toList c.toList<0↔Op.bytesLess (nameAt l h) c.toList=true):=by rw[B];exact xe
   clear L z B;generalize kJ f.name.toList c.toList=Z at *;have F:=d.trans A;clear d A;by_cases a3:Z<0
   .go_wp2
    go_roundw
    case rel=>
     let⟨p,q⟩:=r.o;refine⟨h+1,j,F3,rfl,E5,X,λt V=>?_,q,F⟩;have n:=E.o.1 a3;by_cases e:t=h
     .subst e;exact n
     .exact fu _ _ _ (U.o t h E5 J) n
    case measure=>simp[intOf];omega
   .go_wp2
    go_roundw
    case rel=>
     let⟨p,q⟩:=r.o;refine⟨i,h,rfl,F3,a1,E5,p,λt h1 W=>?_,F⟩;have n:Op.bytesLess (nameAt l h) c.toList=false:=by
      cases P:Op.bytesLess (nameAt l h) c.toList
      .rfl
      .have:=E.o.2 P;omega
     by_cases e:t=h
     .subst e;exact n
     .cases P:Op.bytesLess (nameAt l t) c.toList
      .rfl
      .rw[fu _ _ _ (U.o h t E5 W) P] at n;cases n
    case measure=>simp[intOf];omega
  .have a4:i=j:=E5;subst a4;have a0:Hid (Place l c.toList i):=⟨X,r.o.1,r.o.2⟩;clear r;by_cases G:i<l.length
   .obtain⟨b,o,rfl,hb,s⟩:=T.kept d i (by rw[D.1];exact G);let⟨v,a2,fr,x,y,k⟩:=(D.kept d).2 i G;let⟨f,m⟩:=aj (l.getD i Qz.zero);rw[<-m] at k;have K:=Kz m;have L:=s _ _ x;have z:M4 wr v 0 (.string f.name):=k;have M:=aM y;clear m s k x y;have N:=Mk C d.size;have O:wr.cell? ⟨g,1,none⟩=some (.func (.func 100) #[] #[]):=by rw[d.cell C];exact R
    have a5:(i:Int)<l.length:=E5;go_wp2_with fail
    refine (rX _ g f.name v c N M z O).mono ?_;rintro e w1 ⟨rfl,A⟩;have B:nameAt l i=f.name.toList:=by unfold nameAt;rw[<-K.o]
    have E:Hid (kJ f.name.toList c.toList=0↔nameAt l i=c.toList):=by rw[B];exact uA
    clear L z B;generalize kJ f.name.toList c.toList=Z at *;have F:=d.trans A;clear d A;go_wp2
    go_ret2
    refine⟨Found.mk i _ rfl a0.o ?_,F⟩;rw[<-E.o];simp[G]
   .have a5:¬(i:Int)<l.length:=E5;go_wp2
    go_ret2
    exact⟨Found.mk i false rfl a0.o (by simp;intro h;exact NB h G),d⟩
theorem zi(w:NN)(a:NM)(cap:Nat)(l:List Qz)(b:NL)(i:l.length<=1048576)(j:f_ l)(c:List NP)(k:jW w c l)(m:uh w a c):Calls prog 185 #[.agg #[.slice a l.length cap,.func (.func 100) #[] #[]],.string b] w
   λe w'=>Found l b.toList e/\K_ w w':=by
 have d:K_ w (w.alloc (.cells #[.slice a l.length cap,.func (.func 100) #[] #[]] 154)):=ah _ _;go_enter func185,ntmps185
 go_wp2_with fail
 refine (Db _ w.heap.size a cap l b i j E9 E9 c (k.kept d) (m.kept d)).mono ?_;rintro e v ⟨n,p⟩;obtain⟨q,r,rfl,f,h⟩:=n;have⟨s,t⟩:=aH f h;clear f h;go_wp2
 go_ret2
 exact⟨Found.mk q r rfl s.o t.o,d.trans p⟩
def iZ(ts:List Zk):List Qz:=ts.map λt=>⟨t.r.name,0,[]⟩
theorem dZ(ts:List Zk):(iZ ts).length=ts.length:=by simp[iZ]
theorem iK{ts:List Zk}{i:Nat}(h:i<ts.length):((iZ ts).getD i Qz.zero).name=ts[i].r.name:=by simp[iZ,List.getD,h]
theorem tN{ts:List Zk}(h:dB (Qj ts)):f_ (iZ ts):=λi j e a=>by
 rw[dZ] at a;unfold nameAt;rw[iK E5,iK a];have:=Mx.1 h i j (by simp[Qj];omega) (by simpa[Qj] using a) e;unfold aQ at this;simpa[Qj] using this
section
variable {G:cZ}{Kq:List Qz}{wz w w':NN}{bb:Nat}{a:NM}{cap:Nat}{rd:NM}{rn rc:Nat}{mb mx:Nat}{ts:List Zk}{d:NM}{dc:Nat}{f:NL -> NP}{ws:NL -> List Nat}
theorem BM.packed(h:BM G Kq wz w bb a cap rd rn rc mb mx ts d dc f ws):jW w (ts.map Zk.ptr) (iZ ts):=⟨by simp[iZ],λi b=>by
  rw[dZ] at b;have c:=h.eZ ts[i] (Mw b);let⟨e,j,_⟩:=c.row;exact⟨ts[i].tb,e,_,by simp[b,Zk.ptr],j,by rw[iK b];exact c.rng 0 _ rfl⟩⟩
def Ja(ts:List Zk)(n:NL)(e:Ending):Prop:=(∃(i:Nat)(hi:i<ts.length),ts[i].r.name=n/\e=.returned ts[i].ptr)\/((∀t∈ts,t.r.name≠n)/\e=.returned (.pointer none))
theorem qN(c:BM G Kq wz w bb a cap rd rn rc mb mx ts d dc f ws)(n:NL)(P:ts.length<=1048576):Calls prog 161 #[.c bb,.string n] w λe w'=>Ja ts n e/\K_ w w':=by
 have v:=c.c3;have E:=c.c4;have Q:=c.row.lt;have l:=dZ ts;have h:=Kz c;clear c;go_enter func161,ntmps161
 go_wp2_with fail
 have m:=zi w d dc (iZ ts) n E5 (tN h.o.asc) (ts.map Zk.ptr) h.o.packed (ed h.o.items);rw[l] at m;refine m.mono ?_;rintro e F ⟨⟨p,H,rfl,x,y⟩,q⟩;have⟨I,z,R⟩:=di x y l;clear x y m l v E;have j:=h.o.kept q;have v:=j.c3;have S:=j.row.lt;cases H
 .go_wp2
  go_ret
  refine⟨.inr ⟨λT J e=>?_,rfl⟩,q⟩;obtain⟨A,B,rfl⟩:=MB J;have K:=I.o;have L:¬(p<(iZ ts).length/\nameAt (iZ ts) p=n.toList):=λM=>by have:=z.o.2 M;cases this
  have s:nameAt (iZ ts) A=n.toList:=by unfold nameAt;rw[iK B,e]
  have t:A<(iZ ts).length:=by rw[dZ];exact B
  have N:=Place.only (tN h.o.asc) K t s;rw[N] at t s;exact L ⟨t,s⟩
 .obtain⟨i,k⟩:=z.o.1 rfl;rw[dZ] at i;have C:ts[p].r.name=n:=by unfold nameAt at k;rw[iK i] at k;exact toList_inj.1 k
  obtain⟨b,o,rfl,U,D⟩:=ed j.items p (by simpa using i);have V:F.cell? ⟨b,o+p,none⟩=some ts[p].ptr:=D p _ (by simp[i]);have W:(p:Int)<(ts.length:Int):=E5;have O:=Kz C;clear C D k j;go_wp2
  go_ret
  exact⟨.inl ⟨p,i,O.o,rfl⟩,q⟩
theorem En(w:NN)(n:NL)(a:n.size<=1000):Calls prog 159 #[.string n] w λe w'=>e=.returned (.agg #[.bool true,.string (xm n)])/\K_ w w':=by
 go_enter func159,ntmps159
 have b:¬9223372036854775807<3+n.size:=E5;go_wp2
 exact Zx [.bool true,.string (xm n)] _ results159 rfl (X_ w #[.bool true,.string (xm n)] 100) underlying100 rfl Tryz.lG rfl ⟨rfl,ah _ _⟩
def Ha(Kq:List Qz)(l:List Q_)(n:NL)(e:Ending):Prop:=∃(f:Bool)(t:NL)(ok:Bool),e=.returned (.tuple #[.agg #[.bool f,.string t],.bool ok])/\bD (Kk Kq) (Qq l) n= (if ok=true then some ⟨f,t⟩ else none)/\(ok=false->∃r,Qq l n=some r/\f=r.fail/\t=r.text)
theorem mO(p:BM G Kq wz w bb a cap rd rn rc mb mx ts d dc f ws)(n:NL)(S:ts.length<=1048576)(T:n.size<=1000)(y:(∃t∈ts,t.r.name=n)\/Kk Kq n=none):Calls prog 127 #[.c bb,.string n] w λe w'=>Ha Kq (Qj ts) n e/\K_ w w':=by
 have z:K_ w (w.alloc (.cells #[.bool false,.string ⟨#[]⟩] 100)):=ah _ _;go_enter func127,ntmps127
 go_wp2_with fail
 refine (qN (p.kept z) n S).mono ?_;rintro e q ⟨⟨i,A,B,rfl⟩|⟨L,rfl⟩,s⟩
 .obtain⟨t,b⟩:=aj (ts[i]);have C:=p.eZ ts[i] (Mw A);rw[<-b] at C B;have v:=C.rng;have M:M4 w t.tb 1 (.bool t.r.over):=v 1 _ rfl;have N:M4 w t.tb 2 (.bool t.r.fail):=v 2 _ rfl;have O:M4 w t.tb 3 (.string t.r.text):=v 3 _ rfl;have D:=C.row.lt;have E:Hid (∀w',K_ w w'->M4 w' t.tb 1 (.bool t.r.over)/\M4 w' t.tb 2 (.bool t.r.fail)/\M4 w' t.tb 3 (.string t.r.text)):=λw' K=>⟨(K.cell D).trans M,(K.cell D).trans N,(K.cell D).trans O⟩
  have F:=Kz ((ay.made w #[.bool false,.string ⟨#[]⟩] 100).kept s);have c:=(z.trans s);let⟨U,V,W⟩:=E.o _ c;have⟨X,Y⟩:=aH B b;have P:ts[i].ptr=.c t.tb:=by rw[<-b];rfl
  rw[P];clear b B M N O v P;go_upto_region 4 with fail
  refine ik 17 E.o (c.drew) λj=>?_;have H:=c.drew;have k:=Kz (F.o.kept (aY q));generalize Z:q.drew=wd at j H k⊢;clear Z U V W;refine ak 0 j ?_;refine ak 4 j ?_;refine ak 8 j ?_;refine ak 12 j ?_;let⟨⟨_,x0⟩,f0⟩:=k.o.row.at (i:=0) E8;let⟨⟨_,x1⟩,f1⟩:=k.o.row.at (i:=1) E8;have xz:=k.o.lt;refine ai 16 λK l=>?_;go_simp
  refine l.out _ _ ?_ ?_
  .exact λ_=>E.o _ (aP (g:=w.heap.size) (Mj _) [.bool t.r.fail,.string t.r.text] 0 H)
  clear l K;try simp only[upP]
  refine ai 17 λK l=>?_;go_simp
  refine af l (λh=>NB rfl h) ?_;clear l K;refine aC ?_;go_wp2_with fail
  have I:=Mo wd w.heap.size 0 [.bool t.r.fail,.string t.r.text] (k.o.row.there (o:=0) (m:=2) (Mj _));refine bC [.bool t.r.fail,.string t.r.text] _ (.bool t.r.over) results127 rfl I underlying100 rfl Tryz.lG rfl rfl ?_;refine⟨⟨t.r.fail,t.r.text,t.r.over,rfl,?_⟩,aP (g:=w.heap.size) (Mj _) [.bool t.r.fail,.string t.r.text] 0 H⟩;have Q:=(p.act ts[i] (Mw A)).1;have J:=bJ p.asc (Nk (Mw A):ts[i].r∈Qj ts);rw[<-Y.o,X.o] at Q J;refine⟨by unfold bD;rw[Q,J],λ_=>⟨t.r,J,rfl,rfl⟩⟩
 .have F:=Kz ((ay.made w #[.bool false,.string ⟨#[]⟩] 100).kept s);have c:=(z.trans s);have a0:=Kz L;clear L;go_wp2_with fail
  refine (En q n T).mono ?_;rintro e w2 ⟨rfl,R⟩;have x:=Kz (F.o.kept R);let⟨⟨_,x0⟩,f0⟩:=x.o.row.at (i:=0) E8;let⟨⟨_,x1⟩,f1⟩:=x.o.row.at (i:=1) E8;have xz:=x.o.lt;go_wp2_with fail
  have I:=Mo w2 w.heap.size 0 [.bool true,.string (xm n)] (x.o.row.there (o:=0) (m:=2) (Mj _));refine bC [.bool true,.string (xm n)] _ (.bool true) results127 rfl I underlying100 rfl Tryz.lG rfl rfl ?_;refine⟨⟨true,xm n,true,rfl,?_⟩,aP (g:=w.heap.size) (Mj _) [.bool true,.string (xm n)] 0 (c.trans R)⟩;rcases y with⟨t,b,e⟩|y
  .exact NB e (a0.o t b)
  .exact⟨by unfold bD;rw[y];rfl,λh=>by cases h⟩
theorem oC(b:BM G Kq wz w bb a cap rd rn rc mb mx ts d dc f ws)(n:NL)(c:ts.length<=1048576)(h:n.size<=1000)(i:(∃t∈ts,t.r.name=n)\/Kk Kq n=none):Calls prog 127 #[.c bb,.string n] w λe w'=>ER Kq (Qj ts) n e/\K_ w w':=by
 refine (mO b n c h i).mono ?_;rintro e w' ⟨⟨f,t,j,k,l,_⟩,m⟩;exact⟨⟨f,t,j,k,l⟩,m⟩
end
section
variable {G:cZ}{Kq:List Qz}{wz w w':NN}{bb:Nat}{a:NM}{cap:Nat}{rd:NM}{rn rc:Nat}{mb mx:Nat}{ts:List Zk}{d:NM}{dc:Nat}{f:NL -> NP}{ws:NL -> List Nat}
theorem BM.store(j:BM G Kq wz w bb a cap rd rn rc mb mx ts d dc f ws){i:Nat}{t t':Zk}(hi:ts[i]? =some t){o:Nat}{v:NP}(A:o<12)(e:t'.cells=t.cells.set o v)(k:t'.tb=t.tb)(B:t'.r.name=t.r.name)(C:t'.cost=t.cost)(D:t'.steps=t.steps)(E:t'.sa=t.sa)(q:t'.tv=t.tv)(s:t'.qv=t.qv)(y:t'.qs=t.qs)(F:t'.r.texts=t.r.texts):BM G Kq wz (w.setCell ⟨t.tb,o,none⟩ v) bb a cap rd rn rc mb mx (ts.set i t') d dc f ws:=by
 obtain⟨l,rfl⟩:=Mr.1 hi;have b:=j.eZ _ (Mw l);have m:But (λc=>c=ts[i].tb) w (w.setCell ⟨ts[i].tb,o,none⟩ v):=But.set (S:=λc=>c=ts[i].tb) (But.ax (K_.refl w)) (p:=⟨ts[i].tb,o,none⟩) rfl v;have ne:∀x∈ts[i].own,x≠ts[i].tb:=λx n=>aU (b.fB n).1 b.row.type E8
 have z:t'.own=ts[i].own:=by unfold Zk.own;rw[q,s]
 refine j.turn l m (λc h=>.inl h) ⟨by rw[k];exact b.row.set v,by rw[k,e];exact nu b.rng b.row.row A v,?_,?_,by rw[k];exact b.low⟩ k B C D E (λx n=>.inl (by rw[<-z];exact n)) (by rw[z];exact j.yX _ (Mw l)) (by rw[y];exact j.qb _ (Mw l))
 .rw[q,F];exact m.owns b.txt (λc h=>ne c (Mv.2 (.inl (MV.2 h))))
 .rw[s,y];exact m.owns b.ask λc h=>ne c (Mv.2 (.inr (MV.2 h)))
theorem BM.at(h:BM G Kq wz w bb a cap rd rn rc mb mx ts d dc f ws){i:Nat}{t:Zk}(hi:ts[i]? =some t):kN wz.heap.size w t:=h.eZ t (ME hi)
theorem Tryz.KR(w:NN):(zeroValue 151).run prog w=.ok M3 w:=F4
theorem Tryz.keyed :Maps.Keyed prog 9:=Maps.string_keyed underlying9
theorem BM.look(h:BM G Kq wz w bb a cap rd rn rc mb mx ts d dc f ws){s:NL}(c:s.size<=maxLen):(Instr.lookup 150 (.map (some mb)) (.string s) false).run prog w=.ok (f s) w:=by
 let⟨N,D,_,i,j⟩:=h.map;let⟨v,m,k,b⟩:=i.lookup Tryz.keyed underlying150 (Tryz.KR w) (zd:=.held M3) (zp:=[]) rfl (WideMaps.keyOf_string_mk underlying9 c);have e:=j s c;unfold asIs at b;simp only[Na,Prod.mk.injEq] at b;have l:=b.1.trans e;cases l;exact k
theorem ko{s b:NL}(h:s≠b):dL s≠dL b:=λe=>h (by
 unfold dL at e;simp only[Lit.string.injEq] at e;exact Aq e)
theorem BM.del(h:BM G Kq wz w bb a cap rd rn rc mb mx ts d dc f ws){s:NL}(y:s.size<=maxLen)(p:TypeId):∃w',(Builtin.delete_ #[150,9] p #[.map (some mb),.string s]).run prog w=.ok (.tuple #[]) w'/\But (λb=>b=mb) w w'/\BM G Kq wz w' bb a cap rd rn rc mb mx ts d dc (λn=>if n=s then M3 else f n) (λn=>if n=s then [] else ws n):=by
 let⟨N,J,z,q,A⟩:=h.map;let⟨w',B,C,D⟩:=q.drop Tryz.keyed underlying150 (WideMaps.keyOf_string_mk underlying9 y) p;have k:But (λb=>b=mb) w w':=But.aI D.grown λb e=>(Nl e).symm;refine⟨w',B,k,?_⟩;have ne:∀{b:Nat}{t:TypeId},bA w b t->¬b=mb:=λE e=>iC q E e
 have l:=h.row.lt;have i:=ne h.row.type;have F:Fen G w' bb mb ts (λn=>if n=s then M3 else f n):=by
  have j:=h.oth.but k (λb e=>by rw[e];exact h.oth.nm);refine⟨j.size,j.lt,j.same,j.nb,j.nm,j.nt,λn x c=>?_,j.has⟩;by_cases e:n=s
  .simp only[Nz e] at c;cases c
  .simp only[NA e] at c;exact h.oth.nf n x c
 refine⟨k.kept h.kw (λb e=>by rw[e];exact h.Bq),k.row h.row i,(k.cell l i).trans h.c0,(k.cell l i).trans h.c1,(k.cell l i).trans h.c2,(k.cell l i).trans h.c3,(k.cell l i).trans h.c4,(k.cell l i).trans h.c5,h.low,k.owns h.items λb e=>ne (Y_ h.items e),λt m=>(h.eZ t m).but k (ne (h.eZ t m).row.type) λx c=>ne ((h.eZ t m).fB c).1,h.act,h.asc,h.tbs,h.sep,h.yX,⟨N,_,z,C,λn H=>?_⟩,h.Bq,λn=>?_,λn r I x c=>?_,λn x c=>?_,h.qb,F,h.gi⟩
 .by_cases e:n=s
  .rw[Nz e,e];exact Maps.atKey_del_same _
  .rw[NA e,<-A n H];exact Maps.atKey_del_other (ko e) _
 .by_cases e:n=s
  .simp only[Nz e];exact Nj _ _ _ _
  .simp only[NA e];exact k.owns (h.jf n) λb e=>ne (Y_ (h.jf n) e)
 .by_cases e:n=s
  .rw[Nz e] at c;cases c
  .rw[NA e] at c;by_cases v:r=s
   .rw[Nz v];intro h;cases h
   .rw[NA v];exact h.yU n r I x c
 .by_cases e:n=s
  .rw[Nz e] at c;cases c
  .rw[NA e] at c;exact h.Bn n x c
end
def iO(ts:List Zk)(l:List Nat):List Zk:=ts.map λt=>if t.tb∈l then {t with op:=t.op-1} else t
theorem CG{ts:List Zk}{l:List Nat}{i:Nat}(h:i<(iO ts l).length)(hi:i<ts.length):(iO ts l)[i]=if ts[i].tb∈l then {ts[i] with op:=ts[i].op-1} else ts[i]:=by simp[iO]
theorem Cr(ts:List Zk):iO ts []=ts:=by simp[iO]
theorem zN{ts:List Zk}{l:List Nat}{b j:Nat}{t:Zk}(n:(ts.map (·.tb)).Nodup)(p:b∉l)(q:ts[j]? =some t)(d:t.tb=b):iO ts (l++[b])= (iO ts l).set j {t with op:=t.op-1}/\(iO ts l)[j]? =some t:=by
 obtain⟨f,rfl⟩:=Mr.1 q;have r:(iO ts l)[j]? =some ts[j]:=by
  unfold iO;rw[List.getElem?_map,Mq f];simp only[Option.map_some,Na];rw[NA (by rw[d];exact p)]
 refine⟨?_,r⟩;apply List.ext_getElem
 .simp[iO]
 .intro i k v;have a:i<ts.length:=by simpa[iO] using k
  rw[NK,CG k a];by_cases e:j=i
  .subst e;rw[Nz rfl,Nz (by rw[d];simp)]
  .rw[NA e,CG (by simpa[iO] using a) a];have s:ts[i].tb≠b:=by
    rw[<-d];have m:=Mx.1 n;rcases Nat.lt_or_gt_of_ne e with h|h
    .have:=m j i (by simpa using f) (by simpa using a) h;simp at this;exact λe=>this e.symm
    .have:=m i j (by simpa using a) (by simpa using f) h;simpa using this
   by_cases c:ts[i].tb∈l
   .rw[Nz c,Nz (Mv.2 (.inl c))]
   .rw[NA c,NA (by rw[Mv,Mt];rintro (h|h);exact c h;exact s h)]
theorem EJ{ts:List Zk}{l:List Nat}{i:Nat}{t:Zk}(h:ts[i]? =some t):∃u,(iO ts l)[i]? =some u/\u.tb=t.tb/\u.r=t.r:=by
 refine⟨if t.tb∈l then {t with op:=t.op-1} else t,by unfold iO;rw[List.getElem?_map,h];rfl,?_,?_⟩
 .by_cases h:t.tb∈l
  .rw[Nz h]
  .rw[NA h]
 .by_cases h:t.tb∈l
  .rw[Nz h]
  .rw[NA h]
def Zk.ended(t:Zk)(fl:Bool)(tx:NL):Zk:={t with r:={t.r with over:=true,fail:=fl,text:=tx}}
section
variable {G:cZ}{Kq:List Qz}{wz w w':NN}{bb:Nat}{a:NM}{cap:Nat}{rd:NM}{rn rc:Nat}{mb mx:Nat}{ts:List Zk}{d:NM}{dc:Nat}{f:NL -> NP}{ws:NL -> List Nat}
theorem BM.ended(k:BM G Kq wz w bb a cap rd rn rc mb mx ts d dc f ws){i:Nat}{t:Zk}(hi:ts[i]? =some t)(b:Bool)(c:NL):BM G Kq wz (((w.setCell ⟨t.tb,1,none⟩ (.bool true)).setCell ⟨t.tb,2,none⟩ (.bool b)).setCell ⟨t.tb,3,none⟩ (.string c)) bb a cap rd rn rc mb mx (ts.set i (t.ended b c)) d dc f ws:=by
 have e:=(Mr.1 hi).1;have l:=k.store (t':={t with r:={t.r with over:=true}}) hi (o:=1) (v:=.bool true) E5 rfl rfl rfl rfl rfl rfl rfl rfl rfl rfl;have h:=l.store (t':={t with r:={t.r with over:=true,fail:=b}}) (Nv e) (o:=2) (v:=.bool b) E5 rfl rfl rfl rfl rfl rfl rfl rfl rfl rfl;rw[List.set_set] at h;have j:=h.store (t':=t.ended b c) (Nv e) (o:=3) (v:=.string c) E5 rfl rfl rfl rfl rfl rfl rfl rfl rfl rfl;rw[List.set_set] at j;exact j
theorem nH(hB:BM G Kq wz w bb a cap rd rn rc mb mx ts d dc f ws){i:Nat}{t:Zk}(hi:ts[i]? =some t)(D:Bool)(E:NL)(b8:t.r.name.size<=1000)(b9:(ws t.r.name).length<=1000)(hw:∀b∈ws t.r.name,∃(j:Nat)(u:Zk),(ts.set i (t.ended D E))[j]? =some u/\u.tb=b/\1<=u.op/\u.op<=1000)(b1:(ws t.r.name).Nodup):Calls prog 133 #[.c bb,.c t.tb,.bool D,.string E] w λe w'=>e=.returned (.tuple #[])/\BM G Kq wz w' bb a cap rd rn rc mb mx (iO (ts.set i (t.ended D E)) (ws t.r.name)) d dc (λn=>if n=t.r.name then M3 else f n) (λn=>if n=t.r.name then [] else ws n):=by
 let⟨x,hm⟩:=aj ((ws t.r.name).length);have R:=hB.at hi;let⟨⟨_,x1⟩,f1⟩:=R.row.row.at (i:=1) E5;let⟨⟨_,x2⟩,f2⟩:=R.row.row.at (i:=2) E5;let⟨⟨_,x3⟩,f3⟩:=R.row.row.at (i:=3) E5;have tz:=R.row.lt;let⟨W1,a2⟩:=aj (((w.setCell ⟨t.tb,1,none⟩ (.bool true)).setCell ⟨t.tb,2,none⟩ (.bool D)).setCell ⟨t.tb,3,none⟩ (.string E));have a1:BM G Kq wz W1 bb a cap rd rn rc mb mx (ts.set i (t.ended D E)) d dc f ws:=by
  rw[a2];exact hB.ended hi D E
 let⟨va,vc,hf⟩:=aF (a1.jf t.r.name);rw[<-hm] at hf;have b2:=(Mr.1 hi).1;have a3:(ts.set i (t.ended D E))[i]? =some (t.ended D E):=by rw[Nv b2]
 let⟨T1,a4⟩:=aj (ts.set i (t.ended D E));rw[<-a4] at a1 a3 hw⊢;have⟨c0,I,a5,Hf,H⟩:=jh a4 a1 a3 hf hm;have⟨HW,HN⟩:=aH hw b1;have c1:x<=1000:=E5;have S:Hid (∀w',K_ W1 w'->M4 w' bb 5 (.map (some mb))/\M4 w' t.tb 0 (.string t.r.name)/\(Instr.lookup 150 (.map (some mb)) (.string t.r.name) false).run prog w'=.ok (.slice va x vc) w'):=λw' K=>⟨(I.o.kept K).c5,((I.o.kept K).at a5.o).rng 0 _ rfl,by rw[<-Hf.o];exact (I.o.kept K).look F5⟩
 clear hB a1 R hi a3 a4 hf hm hw b1 b2;go_enter func133,ntmps133
 go_upto_region 1 with fail
 rw[<-a2];clear a2 x1 x2 x3 f1 f2 f3 tz;refine bF 10 S.o λwd y q=>?_
 refine ak 0 q ?_;refine ak 4 q ?_;refine ae 8 q ?_;refine ae 9 q ?_;refine fP 10 11 (λK c=>?_) (λK c=>?_)
 .rw[Nz F7];go_simp
  refine af c (λ_=>S.o _ y) ?_;clear c K;refine ai 11 λK c=>?_;go_simp
  refine af c (λ_=>S.o _ y) ?_;clear c K;refine aC ?_;have T:=Kz (I.o.kept y);clear q;go_wp2
  go_loopw [35] (λJ wr=>∃k:Nat,k<=x/\J=.a k/\BM G Kq wz wr bb a cap rd rn rc mb mx (iO T1 ((ws t.r.name).take k)) d dc f ws) (λJ _=>x-(intOf J).toNat)
  case atStart=>exact⟨0,Ml _,rfl,by rw[List.take_zero,Cr];exact T.o⟩
  case round=>
   clear T y;obtain⟨k,hk,rfl,m⟩:=hrel;by_cases b3:k<x
   .obtain⟨p,z⟩:∃p,(ws t.r.name)[k]? =some p:=⟨_,Mq (by have:=H.o;omega)⟩;have U:=ME z;let⟨j,u,V,L,b4,b5⟩:=HW.o p U;have A:(ws t.r.name).take (k+1)= (ws t.r.name).take k++[p]:=by
     let⟨B,C⟩:=Mr.1 z;rw[Ms B,C]
    have W:p∉(ws t.r.name).take k:=λh=>by
     have a6:=HN.o;let⟨B,C⟩:=Mr.1 z;let⟨a7,hq,e⟩:=MB h;rw[ML] at hq;rw[MW] at e;have:=Mx.1 a6 a7 k E5 B E5;exact this (e.trans C.symm)
    let⟨M,N⟩:=zN I.o.tbs W V L;rw[<-A] at M;have F:=m.at N;have o9:M4 wr u.tb 9 (.a (u.op:Int)):=F.rng 9 _ rfl;have uz:=F.row.lt;let⟨_,g9⟩:=F.row.row.at (i:=9) E5;have O:=m.jf t.r.name;rw[Hf.o] at O;obtain⟨b,o,rfl,hb,X⟩:=ed (by have:=O;rw[<-H.o] at this;exact this) k (by simp;have:=H.o;omega);have b6:wr.cell? ⟨b,o+k,none⟩=some (.c u.tb):=by rw[X k (xX p) (by simp[z]),<-L];rfl
    have P:=Kz (m.store (t':={u with op:=u.op-1}) N (o:=9) (v:=.a ((u.op-1:Nat):Int)) E5 rfl rfl rfl rfl rfl rfl rfl rfl rfl rfl);rw[<-M] at P;have Y:((u.op-1:Nat):Int)= (u.op:Int)-1:=E5;rw[Y] at P;have i0:(k:Int)<(x:Int):=E5;clear X O F M N A W U z V L Y m;go_wp2
    go_roundw
    case rel=>exact⟨k+1,E5,F3,P.o⟩
    case measure=>simp[intOf];omega
   .obtain rfl:k=x:=E5;have A:(ws t.r.name).take k=ws t.r.name:=by rw[H.o];exact MS
    rw[A] at m;have Q:=Kz m;clear m A;have a8:=Kz (EJ (l:=ws t.r.name) a5.o);have a9:Hid (∀w',K_ wr w'->M4 w' bb 5 (.map (some mb))/\M4 w' t.tb 0 (.string t.r.name)):=λw' K=>⟨(Q.o.kept K).c5,by let⟨u,B,C,h3⟩:=a8.o;have Z:=((Q.o.kept K).at B).rng 0 _ rfl;rw[C,h3] at Z;exact Z⟩
    go_upto_region 6 with fail
    refine bF 9 a9.o λwd y q=>?_
    refine ak 0 q ?_;refine ak 4 q ?_;refine ae 8 q ?_;let⟨w9,b7,_,a0⟩:=(Q.o.kept y).del (s:=t.r.name) F5 0;have b0:=Kz a0;clear a0;refine aG 9 λK c=>?_;go_simp
    refine af c (λh=>NB rfl h) ?_;clear c K;refine aC ?_;go_wp2
    go_end0
    exact⟨rfl,b0.o⟩
 .rw[Nz F7];go_simp
  refine af c (λ_=>S.o _ y) ?_;clear c K;refine ai 10 λK c=>?_;go_simp
  refine af c (λ_=>S.o _ y) ?_;clear c K;refine aC ?_;have T:=Kz (I.o.kept y);clear q;go_wp2
  go_loopw [35] (λJ wr=>∃k:Nat,k<=x/\J=.a k/\BM G Kq wz wr bb a cap rd rn rc mb mx (iO T1 ((ws t.r.name).take k)) d dc f ws) (λJ _=>x-(intOf J).toNat)
  case atStart=>exact⟨0,Ml _,rfl,by rw[List.take_zero,Cr];exact T.o⟩
  case round=>
   clear T y;obtain⟨k,hk,rfl,m⟩:=hrel;by_cases b3:k<x
   .obtain⟨p,z⟩:∃p,(ws t.r.name)[k]? =some p:=⟨_,Mq (by have:=H.o;omega)⟩;have U:=ME z;let⟨j,u,V,L,b4,b5⟩:=HW.o p U;have A:(ws t.r.name).take (k+1)= (ws t.r.name).take k++[p]:=by
     let⟨B,C⟩:=Mr.1 z;rw[Ms B,C]
    have W:p∉(ws t.r.name).take k:=λh=>by
     have a6:=HN.o;let⟨B,C⟩:=Mr.1 z;let⟨a7,hq,e⟩:=MB h;rw[ML] at hq;rw[MW] at e;have:=Mx.1 a6 a7 k E5 B E5;exact this (e.trans C.symm)
    let⟨M,N⟩:=zN I.o.tbs W V L;rw[<-A] at M;have F:=m.at N;have o9:M4 wr u.tb 9 (.a (u.op:Int)):=F.rng 9 _ rfl;have uz:=F.row.lt;let⟨_,g9⟩:=F.row.row.at (i:=9) E5;have O:=m.jf t.r.name;rw[Hf.o] at O;obtain⟨b,o,rfl,hb,X⟩:=ed (by have:=O;rw[<-H.o] at this;exact this) k (by simp;have:=H.o;omega);have b6:wr.cell? ⟨b,o+k,none⟩=some (.c u.tb):=by rw[X k (xX p) (by simp[z]),<-L];rfl
    have P:=Kz (m.store (t':={u with op:=u.op-1}) N (o:=9) (v:=.a ((u.op-1:Nat):Int)) E5 rfl rfl rfl rfl rfl rfl rfl rfl rfl rfl);rw[<-M] at P;have Y:((u.op-1:Nat):Int)= (u.op:Int)-1:=E5;rw[Y] at P;have i0:(k:Int)<(x:Int):=E5;clear X O F M N A W U z V L Y m;go_wp2
    go_roundw
    case rel=>exact⟨k+1,E5,F3,P.o⟩
    case measure=>simp[intOf];omega
   .obtain rfl:k=x:=E5;have A:(ws t.r.name).take k=ws t.r.name:=by rw[H.o];exact MS
    rw[A] at m;have Q:=Kz m;clear m A;have a8:=Kz (EJ (l:=ws t.r.name) a5.o);have a9:Hid (∀w',K_ wr w'->M4 w' bb 5 (.map (some mb))/\M4 w' t.tb 0 (.string t.r.name)):=λw' K=>⟨(Q.o.kept K).c5,by let⟨u,B,C,h3⟩:=a8.o;have Z:=((Q.o.kept K).at B).rng 0 _ rfl;rw[C,h3] at Z;exact Z⟩
    go_upto_region 6 with fail
    refine bF 9 a9.o λwd y q=>?_
    refine ak 0 q ?_;refine ak 4 q ?_;refine ae 8 q ?_;let⟨w9,b7,_,a0⟩:=(Q.o.kept y).del (s:=t.r.name) F5 0;have b0:=Kz a0;clear a0;refine aG 9 λK c=>?_;go_simp
    refine af c (λh=>NB rfl h) ?_;clear c K;refine aC ?_;go_wp2
    go_end0
    exact⟨rfl,b0.o⟩
end
