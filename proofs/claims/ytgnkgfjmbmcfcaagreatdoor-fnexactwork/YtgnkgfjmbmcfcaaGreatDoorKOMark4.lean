import Derived.Test.YtgnkgfjmbmcfcaaGreatDoorKCResO
set_option maxRecDepth 100000
set_option maxHeartbeats 25600000
namespace Go.Proofs.YtgnkgfjmbmcfcaaGreatDoor
open Go.RowKit Go.Proofs.Tryz
theorem zn(w:Qy)(lo hi:Nat)(a:Qx)(cap:Nat)(l:List Qz)(k:Nat)(h0:0<k)(h1:k+ (l.map dC).sum<=4611686018427387904)(hS:ed w lo hi a l):
  Calls prog 37 #[.slice a l.length cap,.int .i64 k] w fun e w'=>e= .returned (.int .i64 ((k+ (l.map dC).sum:Nat):Int))/\ed w' lo hi a (kX l k)/\Xj lo hi w w':=by
 have d5:=Dp l;rcases hS with rfl|⟨B,c,rfl,S,E,b6,T,U,V⟩
 ·go_enter func37,ntmps37
  go_wp2
  go_loopw [1,5] (fun F i wr=>F= .int .i64 k/\i= .int .i64 0/\wr=w) (fun _ _ _=>0)
  case atStart=>exact⟨rfl,rfl,rfl⟩
  case round=>
   obtain⟨rfl,rfl,rfl⟩:=hrel;go_wp2
   go_ret
   exact⟨by simp,.inl rfl,Xj.refl _ _ _⟩
 ·have b:=Kz U;clear U;go_enter func37,ntmps37
  go_wp2
  go_loopw [1,5] (fun F i wr=>∃j m:Nat,j<=l.length/\i= .int .i64 j/\F= .int .i64 m/\m=k+sumTo dC l j/\Xj lo hi w wr/\Row wr B (l.length*3)/\∀t,t<l.length->mH wr B t (c t) (c (t+1)) (jH l k j t)) (fun _ i _=>l.length-(intOf i).toNat)
  case atStart=>exact⟨0,k,OW _,rfl,rfl,by rw[eD];omega,Xj.refl _ _ _,T,fun t G=>by simpa[jH] using V t G⟩
  case round=>
   obtain⟨j,m,hj,rfl,rfl,X,Y,r,H⟩:=hrel;clear T V;have⟨I,Z⟩:=aD X H;by_cases a0:j<l.length
   ·have a1:=H j a0;have a2:jH l k j j=l.getD j Qz.zero:=by simp[jH]
    rw[a2] at a1;have J:=iK dC l Qz.zero j a0;have b7:=sumTo_le dC l (j+1);obtain⟨d,v,K,L⟩:=a1;obtain⟨s,M⟩:=ag (l.getD j Qz.zero);rw[<-M] at K L J;have b8:m+dC s<=4611686018427387904:=by omega
    have b9:0<m:=by omega
    have c0:dC s= (s.steps.map dE).sum+2:=rfl;have⟨c1,c3⟩:=aD M J;clear H a2 M X J b7;have a3:B<c j:=OV E (b.o 0 j (OW _));have a4:=r.lt;have c2:=K 2 _ rfl;have a5:=Kz L;obtain⟨x,a6,a7⟩:=GM m b9 (by omega);have⟨c4,a8⟩:=aD a6 a7;clear a6 a7 L K;go_wp2_with fail
    refine (a8.o _).mono ?_;rintro e w1 ⟨rfl,n⟩;have p:=r.kept n;have d2:=(n.cell a4).trans c2;have d6:=p.lt;obtain⟨⟨_,c5⟩,f0⟩:=p.at (i:=j*3) (by omega);obtain⟨⟨_,c6⟩,f1⟩:=p.at (i:=j*3+1) (by omega);have a9:=Kz (a5.o.same (n.same _ _));have t1:=(lW.refl B (j*3) (j*3+3) (c j) (c (j+1)) wr).kept n a4;have b0:∀W,StepsIn W (c j) (c (j+1)) d s.steps->Calls prog 91 #[.slice d s.steps.length v,.int .i64 ((m:Int)+1+1)] W fun e w'=>e= .returned (.int .i64 ((m+2+ (s.steps.map dE).sum:Nat):Int))/\StepsIn w' (c j) (c (j+1)) d (jv s.steps (m+2))/\Xj (c j) (c (j+1)) W w':=by
     intro W hW;have:=Ab W (c j) (c (j+1)) d v s.steps (m+2) (by omega) (by omega) hW;rw[show ((m+2:Nat):Int)= (m:Int)+1+1 by omega] at this;exact this
    have⟨b1,N,b2⟩:=bA b0 p t1;clear b0 c2 r a5 n a8 p t1;go_wp2_with fail
    have b3:B<c j:=a3;refine (b1.o _ ((a9.o.same (Same.setCell _ (.inl b3) _)).same (Same.setCell _ (.inl b3) _))).mono ?_;rintro e y ⟨rfl,b4,O⟩;obtain⟨m2,P⟩:=ag (m+2+ (s.steps.map dE).sum);rw[<-P];have d7:m2<=4611686018427387904:=by omega
    have c7:=Kz P;clear P b8 c0;have Q:Row (w1.setCell ⟨B,j*3,none⟩ (.string x)) B (l.length*3):=N.o.set _ rfl _;have f:Row ((w1.setCell ⟨B,j*3,none⟩ (.string x)).setCell ⟨B,j*3+1,none⟩ (.int .i64 ((m:Int)+1))) B (l.length*3):=Q.set _ rfl _;have q:=O.same (l2:=B) (h2:=B+1) (by omega);have b5:Row y B (l.length*3):=q.row (OU _) (by omega) f;have z:y.cell? ⟨B,j*3,none⟩=some (.string x):=by rw[q.cell (OU _) (by omega) f.lt,Xk (by omega)];exact bH N.o (by omega) _
    have A:y.cell? ⟨B,j*3+1,none⟩=some (.int .i64 ((m:Int)+1)):=by rw[q.cell (OU _) (by omega) f.lt];exact bH Q (by omega) _
    have C:y.cell? ⟨B,j*3+2,none⟩=some (.slice d s.steps.length v):=by rw[q.cell (OU _) (by omega) f.lt,Xk (by omega),Xk (by omega)];exact d2
    have g:=((b2.o.setCell (o:=j*3) (by omega) (by omega) (.string x)).setCell (o:=j*3+1) (by omega) (by omega) (.int .i64 ((m:Int)+1))).but O (OU _) (OU _) (.inl a3) f.lt;have HE:=Kz (And.intro z (And.intro A C));have⟨c8,c9,d0⟩:=bA g b4 b5;clear z A C g b4 b5 O q Q f f0 c5 f1 c6 d2 N b2 a9 b1;go_wp2
    go_roundw
    case rel=>
     obtain⟨z,A,C⟩:=HE.o;have g:=c8.o;refine⟨j+1,m2,by omega,by go_num,by go_num,by have q1:=I.o;have q2:=c3.o;have q4:=c7.o;have q5:dC s= (s.steps.map dE).sum+2:=rfl;omega,Y.trans (g.keptBut (by omega) (by have:=b.o (j+1) l.length (by omega);omega) S (by have:=b.o 0 l.length (by omega);omega)),d0.o,fun t G=>?_⟩;by_cases e:t=j
     ·subst e;have R:jH l k (t+1) t=ng s m:=by
       unfold jH;rw[Qg (by omega),<-c1.o,<-I.o]
      rw[R];refine⟨d,v, ?_,c9.o⟩;rw[wW,<-c4.o];exact NM z (by rw[A];simp) C
     ·have R:jH l k (j+1) t=jH l k j t:=by
       unfold jH;by_cases h:t<j
       ·rw[Qg h,Qg (by omega)]
       ·rw[Qh h,Qh (by omega)]
      rw[R];have d1:B<c t:=OV E (b.o 0 t (OW _));obtain⟨d3,d4,z3,z4⟩:=Z.o t G;have hd:c (t+1)<=c j\/c (j+1)<=c t:=by
       by_cases h:t<j
       ·exact .inl (b.o _ _ (by omega))
       ·exact .inr (b.o _ _ (by omega))
      exact⟨d3,d4,g.range (by simp[Qz.cells];omega) z3,z4.same (g.same (by omega) (.inl d1))⟩
    case measure=>simp[intOf];omega
   ·have:j=l.length:=by omega
    subst this;go_wp2
    go_ret
    refine⟨aU (by have:=I.o;rw[jD] at this;omega),.inr ⟨B,c,rfl,S,E,by rw[jy];exact b6,by rw[jy];exact r,b.o,fun i D=>?_⟩,Y⟩;rw[jy] at D;have:=Z.o i D;rw[yJ _ _ _ D];unfold jH at this;rw[Qg D] at this;exact this
theorem Eh(w:Qy)(lo hi:Nat)(a:Qx)(cap:Nat)(l:List Qz)(k:Nat)(d:0<k)(f:k+ (l.map dC).sum<=4611686018427387904)(g:ed w lo hi a l):
  Calls prog 13 #[.agg #[.slice a l.length cap],.int .i64 k] w fun e w'=>e= .returned (.int .i64 ((k+ (l.map dC).sum:Nat):Int))/\ed w' lo hi a (kX l k)/\Xj lo hi w w':=by
 have c:K_ w (w.alloc (.cells #[.slice a l.length cap] 37)):=ak _ _;go_enter func13,ntmps13
 go_wp2_with fail
 refine (zn _ lo hi a cap l k d f (g.same (c.same _ _))).mono ?_;rintro e m ⟨rfl,h,i⟩;obtain⟨n,b⟩:=ag (k+ (l.map dC).sum);rw[<-b];have j:=Kz b;clear b;go_wp2
 go_ret
 exact⟨aU (by rw[j.o]),h,(Xj.aj c).trans i⟩
