import Derived.Test.YtgnkgfjmbmcfcaaGreatDoorKXJoin
set_option maxRecDepth 100000
set_option maxHeartbeats 25600000
namespace Go.Proofs.YtgnkgfjmbmcfcaaGreatDoor
open Go.RowKit Go.Proofs.Tryz
theorem Tryz.LW :(prog.info? 3).map (fun i=>(i.zero,i.size,i.bytes))=some (some (.int .i64 0),1,8):=by kernel_rfl
def runN(sl:List Q_)(p:Nat):Qw:=(sl.getD p Q_.zero).name
def fT(w:Qy)(fb n:Nat)(V:Nat->Nat):Prop:=w.rowIs fb 3 n (fun i=>.int .i64 (V i:Int))
variable {fb n : Nat} {V : Nat -> Nat} {w : Qy}
theorem fT.kept{w':Qy}(h:fT w fb n V)(k:K_ w w'):fT w' fb n V:=by
 obtain⟨c,a,d⟩:=h;exact⟨c,(k.block fb (aV a)).trans a,d⟩
theorem fT.lt(h:fT w fb n V):fb<w.heap.size:=by obtain⟨c,b,_⟩:=h;exact aV b
theorem fT.put(h:fT w fb n V)(i v:Nat):fT (w.setCell ⟨fb,i,none⟩ (.int .i64 (v:Int))) fb n (fun p=>if p=i then v else V p):=by
 obtain⟨c,a,b,d⟩:=World.rowIs.set h i (.int .i64 (v:Int));refine⟨c,a,b,fun p f=>?_⟩;rw[d p f];by_cases e:p=i
 ·simp[e]
 ·simp[e]
theorem fT.ne(h:fT w fb n V){b o:Nat}{s:Qw}(a:w.cell? ⟨b,o,none⟩=some (.string s)):b≠fb:=by
 rintro rfl;by_cases d:o<n
 ·rw[World.rowIs.cell h d] at a;cases a
 ·obtain⟨c,e,g,_⟩:=h;simp[World.cell?,e] at a;have:=(PK.1 a).1;omega
theorem fT.strs(h:fT w fb n V){b o:Nat}{l:List Qw}(c:Strs w (some ⟨b,o,none⟩) l)(i:Nat)(v:QA):Strs (w.setCell ⟨fb,i,none⟩ v) (some ⟨b,o,none⟩) l:=fun q d=>by
 obtain⟨g,j,e,f,a⟩:=c q d;cases e;exact⟨b,o,rfl,by rw[size_setCell];exact f,by rw[Zj (h.ne a)];exact a⟩
def NP(Kq:List Qz)(sl:List Q_)(goal:Qw)(w w':Qy)(e:Ending):Prop:=∃fb V,e= .returned (.slice (some ⟨fb,0,none⟩) sl.length sl.length)/\fT w' fb sl.length V/\(∀p,p<sl.length->dR (bC (Kk Kq) (Qq sl)) goal (sl.length+1) (runN sl p) (V p))/\K_ w w'
theorem JC(w:Qy)(a:Qx)(cap:Nat)(Kq:List Qz)(D:Qx)(E rc:Nat)(d:Qx)(dc:Nat)(c:List Q_)(g:Qw)(f5:Kq.length<=1048576)(h6:c.length<=1000)(c9:a_ (Kk Kq))(hg:dU Kq c)(hN:bJ w a Kq)(hS:gD w d c):
  Calls prog 102 #[.agg #[.slice a Kq.length cap],.agg #[.slice D E rc,.slice d c.length dc],.string g] w fun e w'=>NP Kq c g w w' e:=by
 obtain⟨m,O⟩:=ag ((w.alloc (.cells #[.slice a Kq.length cap] 37)).alloc (.cells #[.slice D E rc,.slice d c.length dc] 53));have kB:K_ w m:=by rw[O];exact (ak _ _).alloc _
 have f6:m.heap.size=w.heap.size+2:=by rw[O];simp
 have d0:m.cell? ⟨w.heap.size,0,none⟩=some (.slice a Kq.length cap):=by rw[O,K_.cell (w:=w.alloc (.cells #[.slice a Kq.length cap] 37)) (ak _ _) (by simp)];exact X_ w _ _ 0 _ rfl
 have s0:m.cell? ⟨w.heap.size+1,0,none⟩=some (.slice D E rc):=by have:=X_ (w.alloc (.cells #[.slice a Kq.length cap] 37)) #[.slice D E rc,.slice d c.length dc] 53 0 _ rfl;rw[PL] at this;rw[O];exact this
 have s1:m.cell? ⟨w.heap.size+1,1,none⟩=some (.slice d c.length dc):=by have:=X_ (w.alloc (.cells #[.slice a Kq.length cap] 37)) #[.slice D E rc,.slice d c.length dc] 53 1 _ rfl;rw[PL] at this;rw[O];exact this
 have z0:w.heap.size<m.heap.size:=by omega
 have z1:w.heap.size+1<m.heap.size:=by omega
 have L:Hid (∀w',K_ m w'->w'.cell? ⟨w.heap.size,0,none⟩=some (.slice a Kq.length cap)/\w'.cell? ⟨w.heap.size+1,0,none⟩=some (.slice D E rc)/\w'.cell? ⟨w.heap.size+1,1,none⟩=some (.slice d c.length dc)/\w.heap.size<w'.heap.size/\w.heap.size+1<w'.heap.size):=fun w' K=>⟨(K.cell z0).trans d0,(K.cell z1).trans s0,(K.cell z1).trans s1,OV z0 K.size,OV z1 K.size⟩
 have d1:c.length<=1048576:=by omega
 have f7:=run_make_row' (P:=prog) 56 3 _ _ underlying56 Tryz.LW rfl .i64 .i64 c.length (by omega) (by omega);obtain⟨W0,a8⟩:=ag (m.alloc (.cells (madeCells #[.int .i64 0] c.length) 3));have k0:K_ m W0:=by rw[a8];exact ak _ _
 have b2:Hid (fT W0 m.heap.size c.length (fun _=>0)):=by
  rw[a8];exact World.rowIs_made m (.int .i64 0) c.length 3
 have⟨a3,d2⟩:=aD kB hg;clear kB f6 hg;go_enter func102,ntmps102
 go_upto_region 1 with fail
 rw[<-O];clear O;go_wp2
 rw[<-a8];clear a8 f7 d0 s0 s1;obtain⟨J,b3⟩:=ag m.heap.size;rw[<-b3] at b2⊢;have d3:m.heap.size<=J:=Pw b3.symm;have h7:w.heap.size+1<J:=by omega
 clear b3;go_loopw [8] (fun x8 wr=>∃(n:Nat) (V:Nat->Nat),1<=n/\n<=c.length+1/\x8= .int .i64 (n:Int)/\Hid (fT wr J c.length V)/\Hid (∀p,p<c.length->dR (bC (Kk Kq) (Qq c)) g n (runN c p) (V p))/\K_ m wr) (fun x8 _=>c.length+1-(intOf x8).toNat)
 case atStart=>exact⟨1,_,OU _,by omega,rfl,b2,Kz (fun p _=>dR.start),k0⟩
 case round=>
  clear b2 k0;obtain⟨n,V,d4,h8,rfl,F,M,r⟩:=hrel;obtain⟨c0,c1,c2,y0,y1⟩:=L.o _ r;by_cases h9:n<=c.length;rotate_left
  ·have d5:n=c.length+1:=by omega
   have f8:=Kz d5;have N:¬((n:Int)<=(c.length:Int)):=by omega
   clear d5;go_wp2
   go_ret
   refine⟨J,V,rfl,F.o,fun p q=>?_,a3.o.trans r⟩;rw[<-f8.o];exact M.o p q
  have i0:(n:Int)<=(c.length:Int):=by omega
  go_upto_region 6 with fail
  go_loopw [9] (fun x9 wr=>∃(i:Nat) (V:Nat->Nat),i<=c.length/\x9= .int .i64 (i:Int)/\Hid (fT wr J c.length V)/\Hid (∀p,p<c.length->dR (bC (Kk Kq) (Qq c)) g (if p<i then n+1 else n) (runN c p) (V p))/\K_ m wr) (fun x9 _=>c.length-(intOf x9).toNat)
  case atStart=>exact⟨0,V,OW _,rfl,F,Kz (fun p q=>by rw[Qh (Nat.not_lt_zero _)];exact M.o p q),r⟩
  case round=>
   clear F M c0 c1 c2 y0 y1 r V;obtain⟨i,V,hi,rfl,F,M,r⟩:=hrel;obtain⟨c0,c1,c2,y0,y1⟩:=L.o _ r;by_cases a4:i<c.length;rotate_left
   ·have d6:i=c.length:=by omega
    have g0:=Kz d6;have i1:¬((i:Int)<(c.length:Int)):=by omega
    clear d6;go_wp2
    go_roundw
    case rel=>exact⟨n+1,V,by omega,by omega,by go_num,F,Kz (fun p q=>by have h:=M.o p q;rw[Qg (by rw[g0.o];exact q)] at h;exact h),r⟩
    case measure=>simp[intOf];omega
   have i2:(i:Int)<(c.length:Int):=by omega
   obtain⟨Y,Z,xa,xc,e1,g1,d7,_,_⟩:=(hS.kept (a3.o.trans r)) i a4;subst e1;obtain⟨x,hx⟩:=ag (runN c i);have t0:=d7 0 _ rfl;rw[PR] at t0;have d8:wr.cell? ⟨Y,Z+i*7,none⟩=some (.string x):=by rw[hx];exact t0
   clear t0 d7;have t0:=d8;clear d8;have f0:=World.rowIs.cell F.o a4;try dsimp only at f0
   have fz:=F.o.lt;have HX:=Kz hx;have a5:Hid (dR (bC (Kk Kq) (Qq c)) g n x (V i)):=by have h:=M.o i a4;rw[Qh (Nat.lt_irrefl _),<-hx] at h;exact h
   clear hx;by_cases a0:V i≠0\/aH x g
   ·have a1:=Kz a0;have d9:Hid (∀p,p<c.length->dR (bC (Kk Kq) (Qq c)) g (if p<i+1 then n+1 else n) (runN c p) (V p)):=fun p q=>by
     by_cases e:p=i
     ·subst e;rw[Qg (by omega),<-HX.o];exact a5.o.keep a1.o
     ·have h:=M.o p q;by_cases Q:p<i
      ·rw[Qg Q] at h;rw[Qg (by omega)];exact h
      ·rw[Qh Q] at h;rw[Qh (by omega)];exact h
    have e0:(0:Int)<(V i:Int)\/(¬((0:Int)<(V i:Int))/\Op.bytesLess x.toList g.toList=true):=by
     by_cases h0:V i=0
     ·refine .inr ⟨by omega, ?_⟩;rcases a0 with h|h
      ·exact Qi h0 h
      ·exact h
     ·exact .inl (by omega)
    obtain⟨z,hv⟩:=ag (V i);rw[<-hv] at f0 e0;clear a0 hv;rcases e0 with q|⟨q,hb⟩
    ·go_wp2
     go_roundw
     case rel=>exact⟨i+1,V,by omega,by go_num,F,d9,r⟩
     case measure=>simp[intOf];omega
    ·go_wp2
     go_roundw
     case rel=>exact⟨i+1,V,by omega,by go_num,F,d9,r⟩
     case measure=>simp[intOf];omega
   have b4:V i=0:=by
    by_cases h:V i=0
    ·exact h
    ·exact Qi (.inl h) a0
   have b5:¬aH x g:=fun h=>a0 (.inr h)
   have i3:Op.bytesLess x.toList g.toList=false:=by
    cases h:Op.bytesLess x.toList g.toList
    ·rfl
    ·exact Qi h b5
   rw[b4] at a5 f0;have⟨g2,b6⟩:=aD b4 b5;clear a0 b4 b5;have b7:Hid (∀w',K_ wr w'->w'.cell? ⟨w.heap.size,0,none⟩=some (.slice a Kq.length cap)/\w'.cell? ⟨w.heap.size+1,0,none⟩=some (.slice D E rc)/\w'.cell? ⟨w.heap.size+1,1,none⟩=some (.slice (some ⟨Y,Z,none⟩) c.length dc)/\w'.cell? ⟨Y,Z+i*7,none⟩=some (.string x)):=fun w' K=>⟨(L.o w' (r.trans K)).1,(L.o w' (r.trans K)).2.1,(L.o w' (r.trans K)).2.2.1,(K.cell g1).trans t0⟩
   go_upto_region 9 with fail
   refine aR 9 b7.o fun R k b=>?_
   refine af 0 b ?_;refine af 4 b ?_;refine ax 8 (fun K j=>?_);go_simp
   go_at_call 103
   refine (ve R a cap Kq D E rc (some ⟨Y,Z,none⟩) dc c x f5 d1 c9 d2.o (hN.kept (a3.o.trans (r.trans k))) (hS.kept (a3.o.trans (r.trans k)))).mono ?_;rintro e w2 ⟨⟨lb,lo,lc,A,rfl,i4,e2,b8⟩,k2⟩;have K2:=k.trans k2;refine j.out _ _ (fun _=>b7.o _ K2) ?_;clear j K b;try simp only[Act.put,upA,upB,upC]
   refine ay 9 (fun K j=>?_);go_simp
   refine j.out _ _ (fun h=>Qi rfl h) ?_;clear j K;try simp only[Act.put,upA,upB,upC]
   refine az ?_;have⟨e3,e4⟩:=aD b8 e2;have e5:=Kz (F.o.kept K2);have e6:=r.trans K2;have i5:=b8.len c9 d2.o.env;have e7:=Kz (fun p q=>M.o p q);clear b8 e2 f0 fz t0 c0 c1 c2 y0 y1 b7 k2;go_wp2
   go_loopw [11] (fun b9 wr=>∃(l z:Nat),l<=A.length/\b9= .int .i64 (l:Int)/\Hid (fT wr J c.length (fun p=>if p=i then z else V p))/\Hid ((z=n/\∃s,Hit (bC (Kk Kq) (Qq c)) g n x s)\/(z=0/\∀s∈A.take l,¬Hit (bC (Kk Kq) (Qq c)) g n x s))/\Hid (Strs wr (some ⟨lb,lo,none⟩) A)/\K_ m wr) (fun b9 _=>A.length-(intOf b9).toNat)
   case atStart=>exact⟨0,0,OW _,rfl,Kz (World.rowIs.congr e5.o (fun p q=>by by_cases e:p=i;(subst e;simp[g2.o]);simp[e])),Kz (.inr ⟨rfl,fun s hs=>by simp at hs⟩),e4,e6⟩
   case round=>
    clear e5 e4 e6;obtain⟨l,z,hk,rfl,G,a2,S,B⟩:=hrel;by_cases T:l<A.length;rotate_left
    ·have e8:A.take l=A:=PG (by omega);have i6:¬((l:Int)<(A.length:Int)):=by omega
     have g3:=Kz e8;clear e8;go_wp2
     go_roundw
     case rel=>
      refine⟨i+1,fun p=>if p=i then z else V p,by omega,by go_num,G,Kz (fun p q=>?_),B⟩;by_cases e:p=i
      ·subst e;dsimp only;rw[if_pos (by omega),if_pos rfl,<-HX.o];rcases a2.o with⟨rfl,t⟩|⟨rfl,t⟩
       ·exact dR.hit d4 a5.o b6.o t
       ·refine dR.miss d4 a5.o b6.o (fun ⟨H,f⟩=>?_);rw[g3.o] at t;exact t H ((e3.o.2 H).2 f.1) f
      ·dsimp only;rw[if_neg e];have h:=e7.o p q;by_cases Q:p<i
       ·rw[Qg Q] at h;rw[Qg (by omega)];exact h
       ·rw[Qh Q] at h;rw[Qh (by omega)];exact h
     case measure=>simp[intOf];omega
    obtain⟨i7,i8,e1,g4,c3⟩:=S.o l T;cases e1;obtain⟨s,hs⟩:=ag (A.getD l ByteArray.empty);rw[<-hs] at c3;have c4:A[l]=s:=by rw[hs];simp[List.getD,T]
    have a1:=Kz c4;have c5:Hid (bC (Kk Kq) (Qq c) x s):=(e3.o.2 s).1 (by rw[<-c4];exact Pf T);clear hs c4;have i9:(l:Int)<(A.length:Int):=by omega
    obtain⟨_,c1,c2,y0,y1⟩:=L.o _ B;have U:Hid (∀w',K_ wr w'->w'.cell? ⟨lb,lo+l,none⟩=some (.string s)/\w'.cell? ⟨w.heap.size+1,0,none⟩=some (.slice D E rc)/\w'.cell? ⟨w.heap.size+1,1,none⟩=some (.slice (some ⟨Y,Z,none⟩) c.length dc)/\Hid (fT w' J c.length (fun p=>if p=i then z else V p))):=fun w' K=>⟨(K.cell g4).trans c3,(L.o w' (B.trans K)).2.1,(L.o w' (B.trans K)).2.2.1,Kz (G.o.kept K)⟩
    go_upto_region 13 with fail
    clear c1 c2 y0 y1 c3;by_cases hn:n=1
    ·have HN:=Kz hn;have g5:((n:Int) == 1)=true:=by simp[hn]
     have g6:¬((1:Int)<(n:Int)):=by omega
     clear hn;cases e9:(s.toList == g.toList)
     ·have W:Hid (¬Hit (bC (Kk Kq) (Qq c)) g n x s):=fun h=>by
       rcases h.2 with⟨_,e⟩|⟨e,_⟩
       ·exact ym e9 e
       ·have:=HN.o;omega
      refine aR 35 U.o fun R k b=>?_
      refine af 0 b ?_;refine af 4 b ?_;refine af 8 b ?_;refine ae 12 b ?_;refine ae 13 b ?_;refine au 14 b ?_;refine au 15 b ?_;refine au 16 b ?_;refine au 17 b ?_;refine au 18 b ?_;refine au 19 b ?_;refine ae 20 b ?_;refine ae 21 b ?_;refine au 22 b ?_;refine au 23 b ?_;refine au 24 b ?_;refine au 25 b ?_;refine au 26 b ?_;refine au 27 b ?_;refine au 28 b ?_;refine au 29 b ?_;refine au 30 b ?_;refine au 31 b ?_;refine au 32 b ?_;refine au 33 b ?_;refine ae 34 b ?_;refine ay 35 (fun K j=>?_);go_simp
      refine j.out _ _ (fun h=>Qi rfl h) ?_;clear j K;try simp only[Act.put,upA,upB,upC]
      refine az ?_;go_wp2
      go_roundw
      case rel=>
       refine⟨l+1,z,by omega,by go_num,Kz (G.o.kept k),Kz ?_,Kz (S.o.kept k),B.trans k⟩;rcases a2.o with h|⟨y,t⟩
       ·exact .inl h
       ·refine .inr ⟨y,fun H f=>?_⟩;rw[Pb T,a1.o] at f;rcases Pe.1 f with f | f
        ·exact t H f
        ·rw[Pd] at f;rw[f];exact W.o
      case measure=>simp[intOf];omega
     ·have c6:Hid (Hit (bC (Kk Kq) (Qq c)) g n x s):=⟨c5.o,.inl ⟨HN.o,iX e9⟩⟩;refine aR 35 U.o fun R k b=>?_
      refine af 0 b ?_;refine af 4 b ?_;refine ae 8 b ?_;refine ae 9 b ?_;refine ae 10 b ?_;refine au 11 b ?_;refine au 12 b ?_;refine au 13 b ?_;refine au 14 b ?_;refine au 15 b ?_;refine au 16 b ?_;refine au 17 b ?_;refine au 18 b ?_;refine au 19 b ?_;refine au 20 b ?_;refine au 21 b ?_;refine au 22 b ?_;refine au 23 b ?_;refine au 24 b ?_;refine au 25 b ?_;refine au 26 b ?_;refine au 27 b ?_;refine au 28 b ?_;refine au 29 b ?_;refine au 30 b ?_;refine au 31 b ?_;refine au 32 b ?_;refine au 33 b ?_;refine au 34 b ?_;refine ay 35 (fun K j=>?_);go_simp
      refine j.out _ _ (fun h=>Qi rfl h) ?_;clear j K;try simp only[Act.put,upA,upB,upC]
      refine az ?_;have C:=Kz (G.o.kept k);have c7:=Kz (S.o.kept k);have a6:=World.rowIs.cell C.o a4;have g7:=World.rowIs.frozen C.o i;have fz:=C.o.lt;dsimp only at a6;rw[if_pos rfl] at a6;go_wp2
      go_roundw
      case rel=>
       refine⟨l+1,n,by omega,by go_num,Kz ?_,Kz (.inl ⟨rfl,s,c6.o⟩),Kz (C.o.strs c7.o i _),Below.setCell (B.trans k) (p:=⟨J,i,none⟩) d3 _⟩;exact World.rowIs.congr (C.o.put i n) (fun p q=>by by_cases e:p=i <;> simp[e])
      case measure=>simp[intOf];omega
    ·have HN:=Kz hn;have g5:((n:Int) == 1)=false:=by simp;omega
     have g6:(1:Int)<(n:Int):=by omega
     clear hn;by_cases N:aH g s
     ·have j0:IntKind.i64.wrap ((n:Int)-1)= (n:Int)-1:=by rw[IntKind.wrap_i64];omega
      have f1:Hid (aH g s):=N;have f2:Op.bytesLess s.toList g.toList=false:=by
       cases h:Op.bytesLess s.toList g.toList
       ·rfl
       ·exact Qi (show aH s g from h) (di N)
      have g8:(s.toList == g.toList)=false:=by
       cases h:(s.toList == g.toList)
       ·rfl
       ·exact Qi N (by rw[iX h];exact aI _)
      clear N;refine aR 35 U.o fun R k b=>?_
      refine ae 0 b ?_;refine ae 1 b ?_;refine ae 2 b ?_;refine au 3 b ?_;refine au 4 b ?_;refine au 5 b ?_;refine au 6 b ?_;refine au 7 b ?_;refine au 8 b ?_;refine af 9 b ?_;refine af 13 b ?_;refine af 17 b ?_;refine af 21 b ?_;refine ae 25 b ?_;refine ae 26 b ?_;refine ae 27 b ?_;refine ae 31 b ?_;refine ae 32 b ?_;refine ax 28 (fun K j=>?_);go_simp
      go_at_call 52
      refine (jC R D E rc (some ⟨Y,Z,none⟩) dc c s d1 (hS.kept (a3.o.trans (B.trans k)))).mono ?_;rintro e w3 ⟨⟨X,rfl,hq⟩,k3⟩;have I:=k.trans k3;obtain⟨v,a9,rfl,g9,c8⟩:∃v:Nat,v<c.length/\X= (v:Int)/\Qq c s=some (c.getD v Q_.zero)/\(c.getD v Q_.zero).name=s:=by
       rcases hq with⟨v,y,t,h1,h2⟩|⟨_,y⟩
       ·exact⟨v,y,t,h1,h2⟩
       ·obtain⟨_,_,_,_,_,_,_,j1,hy,_⟩:=c5.o;rw[y] at hy;cases hy
      clear hq;have b0:=World.rowIs.cell (G.o.kept I) a9;dsimp only at b0;have j2:=(G.o.kept I).lt;have j3:(v:Int)<(c.length:Int):=by omega
      have j4:(0:Int)<=(v:Int):=by omega
      obtain⟨X,a7⟩:=ag ((if v=i then z else V v));rw[<-a7] at b0;have HQ:Hid (X=n-1↔dS (bC (Kk Kq) (Qq c)) g (n-1) s):=by
       show X=n-1↔_;by_cases e:v=i
       ·have h3:s=x:=by rw[HX.o,<-e];exact c8.symm
        rw[a7,Qg e,h3];refine⟨fun h=>?_,fun h=>?_⟩
        ·rcases a2.o with⟨y,_⟩ | ⟨y,_⟩ <;> omega
        ·have:=(a5.o.2 b6.o).2 (n-1) (by omega) h;have:=h.1.pos;omega
       ·rw[a7,Qh e];have h:=e7.o v a9;have Q:runN c v=s:=c8;rw[Q] at h;exact h.ask f1.o (by omega) (by split <;> omega)
      have f3:=Kz a7;clear a7 g9 c8;dsimp only;refine j.out _ _ (fun _=>U.o _ I) ?_;clear j K;try simp only[Act.put,upA,upB,upC]
      clear b;have b:=U.o _ I;by_cases b1:X=n-1
      ·have h4:((X:Int) == (n:Int)-1)=true:=by simp;omega
       have c6:Hid (Hit (bC (Kk Kq) (Qq c)) g n x s):=⟨c5.o,.inr ⟨by omega,f1.o,HQ.o.1 b1⟩⟩;clear b1;refine ae 29 b ?_;refine Qk.take 30 [33,34,35] (v:=?_) (by (simp only[Qu,List.getElem?_cons_succ,P_];rfl)) (by kernel_rfl) (by kernel_rfl) (by kernel_rfl) (by kernel_rfl) (by exact fun _ _ _ h=>h) (Or.inl ⟨by rfl, ?_⟩) b ?_;rotate_left
       ·intro u hu;try dsimp only at hu
        have f9:=World.rowIs.cell hu.2.2.2.out a9;try dsimp only at f9
        rw[<-f3.o] at f9;go_simp
        try with_reducible rfl
       try simp only[Act.put,upA,upB,upC]
       refine ae 33 b ?_;refine ae 34 b ?_;refine ay 35 (fun K j=>?_);go_simp
       refine j.out _ _ (fun h=>Qi rfl h) ?_;clear j K;try simp only[Act.put,upA,upB,upC]
       refine az ?_;clear b b0;have C:=Kz (G.o.kept I);have c7:=Kz (S.o.kept I);have a6:=World.rowIs.cell C.o a4;have g7:=World.rowIs.frozen C.o i;have fz:=C.o.lt;dsimp only at a6;rw[if_pos rfl] at a6;go_wp2
       go_roundw
       case rel=>
        refine⟨l+1,n,by omega,by go_num,Kz ?_,Kz (.inl ⟨rfl,s,c6.o⟩),Kz (C.o.strs c7.o i _),Below.setCell (B.trans I) (p:=⟨J,i,none⟩) d3 _⟩;exact World.rowIs.congr (C.o.put i n) (fun p q=>by by_cases e:p=i <;> simp[e])
       case measure=>simp[intOf];omega
      ·have h4:((X:Int) == (n:Int)-1)=false:=by simp;omega
       have W:Hid (¬Hit (bC (Kk Kq) (Qq c)) g n x s):=fun h=>by
        rcases h.2 with⟨e,_⟩|⟨_,_,e⟩
        ·exact HN.o e
        ·exact b1 (HQ.o.2 e)
       clear b1;refine ae 29 b ?_;refine Qk.take 30 [33,34,35] (v:=?_) (by (simp only[Qu,List.getElem?_cons_succ,P_];rfl)) (by kernel_rfl) (by kernel_rfl) (by kernel_rfl) (by kernel_rfl) (by exact fun _ _ _ h=>h) (Or.inl ⟨by rfl, ?_⟩) b ?_;rotate_left
       ·intro u hu;try dsimp only at hu
        have f9:=World.rowIs.cell hu.2.2.2.out a9;try dsimp only at f9
        rw[<-f3.o] at f9;go_simp
        try with_reducible rfl
       try simp only[Act.put,upA,upB,upC]
       refine ae 33 b ?_;refine ae 34 b ?_;refine ay 35 (fun K j=>?_);go_simp
       refine j.out _ _ (fun h=>Qi rfl h) ?_;clear j K;try simp only[Act.put,upA,upB,upC]
       refine az ?_;clear b b0;go_wp2
       go_roundw
       case rel=>
        refine⟨l+1,z,by omega,by go_num,Kz (G.o.kept I),Kz ?_,Kz (S.o.kept I),B.trans I⟩;rcases a2.o with h|⟨y,t⟩
        ·exact .inl h
        ·refine .inr ⟨y,fun H f=>?_⟩;rw[Pb T,a1.o] at f;rcases Pe.1 f with f | f
         ·exact t H f
         ·rw[Pd] at f;rw[f];exact W.o
       case measure=>simp[intOf];omega
     ·have f4:=Kz N;have h5:Op.bytesLess s.toList g.toList=true\/(Op.bytesLess s.toList g.toList=false/\(s.toList == g.toList)=true):=by
       rcases b_ s g with h|h|h
       ·exact .inl h
       ·right
        subst h;exact⟨by cases t:Op.bytesLess s.toList s.toList;rfl;exact Qi (show aH s s from t) (aI s),by simp⟩
       ·exact Qi h N
      clear N;rcases h5 with f2|⟨f2,g8⟩
      ·have W:Hid (¬Hit (bC (Kk Kq) (Qq c)) g n x s):=fun h=>by
        rcases h.2 with⟨e,_⟩|⟨_,e,_⟩
        ·exact HN.o e
        ·exact f4.o e
       refine aR 35 U.o fun R k b=>?_
       refine ae 0 b ?_;refine ae 1 b ?_;refine ae 2 b ?_;refine au 3 b ?_;refine au 4 b ?_;refine au 5 b ?_;refine au 6 b ?_;refine au 7 b ?_;refine au 8 b ?_;refine af 9 b ?_;refine af 13 b ?_;refine af 17 b ?_;refine ae 21 b ?_;refine au 22 b ?_;refine au 23 b ?_;refine au 24 b ?_;refine au 25 b ?_;refine au 26 b ?_;refine au 27 b ?_;refine au 28 b ?_;refine au 29 b ?_;refine au 30 b ?_;refine au 31 b ?_;refine au 32 b ?_;refine au 33 b ?_;refine ae 34 b ?_;refine ay 35 (fun K j=>?_);go_simp
       refine j.out _ _ (fun h=>Qi rfl h) ?_;clear j K;try simp only[Act.put,upA,upB,upC]
       refine az ?_;go_wp2
       go_roundw
       case rel=>
        refine⟨l+1,z,by omega,by go_num,Kz (G.o.kept k),Kz ?_,Kz (S.o.kept k),B.trans k⟩;rcases a2.o with h|⟨y,t⟩
        ·exact .inl h
        ·refine .inr ⟨y,fun H f=>?_⟩;rw[Pb T,a1.o] at f;rcases Pe.1 f with f | f
         ·exact t H f
         ·rw[Pd] at f;rw[f];exact W.o
       case measure=>simp[intOf];omega
      ·have W:Hid (¬Hit (bC (Kk Kq) (Qq c)) g n x s):=fun h=>by
        rcases h.2 with⟨e,_⟩|⟨_,e,_⟩
        ·exact HN.o e
        ·exact f4.o e
       refine aR 35 U.o fun R k b=>?_
       refine ae 0 b ?_;refine ae 1 b ?_;refine ae 2 b ?_;refine au 3 b ?_;refine au 4 b ?_;refine au 5 b ?_;refine au 6 b ?_;refine au 7 b ?_;refine au 8 b ?_;refine af 9 b ?_;refine af 13 b ?_;refine af 17 b ?_;refine ae 21 b ?_;refine au 22 b ?_;refine au 23 b ?_;refine au 24 b ?_;refine au 25 b ?_;refine au 26 b ?_;refine au 27 b ?_;refine au 28 b ?_;refine au 29 b ?_;refine au 30 b ?_;refine au 31 b ?_;refine au 32 b ?_;refine au 33 b ?_;refine ae 34 b ?_;refine ay 35 (fun K j=>?_);go_simp
       refine j.out _ _ (fun h=>Qi rfl h) ?_;clear j K;try simp only[Act.put,upA,upB,upC]
       refine az ?_;go_wp2
       go_roundw
       case rel=>
        refine⟨l+1,z,by omega,by go_num,Kz (G.o.kept k),Kz ?_,Kz (S.o.kept k),B.trans k⟩;rcases a2.o with h|⟨y,t⟩
        ·exact .inl h
        ·refine .inr ⟨y,fun H f=>?_⟩;rw[Pb T,a1.o] at f;rcases Pe.1 f with f | f
         ·exact t H f
         ·rw[Pd] at f;rw[f];exact W.o
       case measure=>simp[intOf];omega
theorem lh{Kq:List Qz}{a:List Q_}(x y:Qw)(h:bC (Kk Kq) (Qq a) x y):x∈a.map (·.name):=by
 obtain⟨r,A,e,_⟩:=h;have b:=bN e;rw[<-b.2];exact Pv.2 ⟨r,b.1,rfl⟩
theorem DW{a:List Q_}(b:dB a){i:Nat}(hi:i<a.length){x:Qw}(c:x=runN a i):∀y∈(a.take i).map (·.name),aH y x:=fun y d=>by
 obtain⟨r,e,rfl⟩:=Pv.1 d;obtain⟨j,g,rfl⟩:=List.mem_take_iff_getElem.1 e;have f:j<i:=by omega
 rw[c,show runN a i=a[i].name by simp[runN,List.getD,hi]];exact Pg.1 b j i (by omega) hi f
def ME(Kq:List Qz)(sl:List Q_)(w w':Qy)(e:Ending):Prop:=∃av cv ns,e= .returned (.slice av ns.length cv)/\ns.length<=cv/\Strs w' av ns/\jS (bC (Kk Kq) (Qq sl)) (sl.map (·.name)) ns/\K_ w w'
theorem BR(w:Qy)(a:Qx)(cap:Nat)(Kq:List Qz)(B:Qx)(C rc:Nat)(d:Qx)(dc:Nat)(b:List Q_)(d3:Kq.length<=1048576)(f6:b.length<=1000)(b3:a_ (Kk Kq))(hg:dU Kq b)(hN:bJ w a Kq)(hS:gD w d b):
  Calls prog 58 #[.agg #[.slice a Kq.length cap],.agg #[.slice B C rc,.slice d b.length dc]] w fun e w'=>ME Kq b w w' e:=by
 obtain⟨D,O⟩:=ag ((w.alloc (.cells #[.slice a Kq.length cap] 37)).alloc (.cells #[.slice B C rc,.slice d b.length dc] 53));have kB:K_ w D:=by rw[O];exact (ak _ _).alloc _
 have f7:D.heap.size=w.heap.size+2:=by rw[O];simp
 have b0:D.cell? ⟨w.heap.size,0,none⟩=some (.slice a Kq.length cap):=by rw[O,K_.cell (w:=w.alloc (.cells #[.slice a Kq.length cap] 37)) (ak _ _) (by simp)];exact X_ w _ _ 0 _ rfl
 have s0:D.cell? ⟨w.heap.size+1,0,none⟩=some (.slice B C rc):=by have:=X_ (w.alloc (.cells #[.slice a Kq.length cap] 37)) #[.slice B C rc,.slice d b.length dc] 53 0 _ rfl;rw[PL] at this;rw[O];exact this
 have s1:D.cell? ⟨w.heap.size+1,1,none⟩=some (.slice d b.length dc):=by have:=X_ (w.alloc (.cells #[.slice a Kq.length cap] 37)) #[.slice B C rc,.slice d b.length dc] 53 1 _ rfl;rw[PL] at this;rw[O];exact this
 have z0:w.heap.size<D.heap.size:=by omega
 have z1:w.heap.size+1<D.heap.size:=by omega
 have V:Hid (∀w',K_ D w'->w'.cell? ⟨w.heap.size,0,none⟩=some (.slice a Kq.length cap)/\w'.cell? ⟨w.heap.size+1,0,none⟩=some (.slice B C rc)/\w'.cell? ⟨w.heap.size+1,1,none⟩=some (.slice d b.length dc)/\w.heap.size<w'.heap.size/\w.heap.size+1<w'.heap.size):=fun w' K=>⟨(K.cell z0).trans b0,(K.cell z1).trans s0,(K.cell z1).trans s1,OV z0 K.size,OV z1 K.size⟩
 have d4:b.length<=1048576:=by omega
 obtain⟨ic,f8,g0,g1,g2⟩:=aN Tryz.fJ;obtain⟨W0,b4⟩:=ag (D.alloc (.cells #[] 9));have k0:K_ D W0:=by rw[b4];exact ak _ _
 have⟨P,a6⟩:=aD kB hg;clear kB f7 hg;go_enter func58,ntmps58
 go_upto_region 1 with fail
 rw[<-O];clear O;go_wp2
 rw[<-b4];clear b4 b0 s0 s1;go_loopw [5,6] (fun x5 x6 wr=>∃(i:Nat) (av:Qx) (cv:Nat) (k:List Qw),i<=b.length/\x6= .int .i64 (i:Int)/\x5= .slice av k.length cv/\k.length<=cv/\Hid (Strs wr av k)/\Hid (jS (bC (Kk Kq) (Qq b)) ((b.take i).map (·.name)) k)/\K_ D wr) (fun _ x6 _=>b.length-(intOf x6).toNat)
 case atStart=>exact⟨0,_,_,[],OW _,rfl,rfl,OW _,Kz (fun q hq=>Qi hq (Nat.not_lt_zero q)),Kz (jS.start _),k0⟩
 case round=>
  clear k0;obtain⟨i,av,cv,k,hi,rfl,rfl,d5,HB,HR,W⟩:=hrel;obtain⟨c0,c1,c2,y0,y1⟩:=V.o _ W;by_cases X:i<b.length;rotate_left
  ·have d6:i=b.length:=by omega
   have g3:=Kz d6;have j9:¬((i:Int)<(b.length:Int)):=by omega
   clear d6;go_wp2
   go_ret
   refine⟨av,cv,k,rfl,d5,HB.o, ?_,P.o.trans W⟩;have h:=HR.o;rw[g3.o,PE] at h;exact h
  have k3:(i:Int)<(b.length:Int):=by omega
  obtain⟨Y,Z,xa,xc,e1,k6,d7,_,_⟩:=(hS.kept (P.o.trans W)) i X;subst e1;obtain⟨x,hx⟩:=ag (runN b i);have t0:=d7 0 _ rfl;rw[PR] at t0;have d8:wr.cell? ⟨Y,Z+i*7,none⟩=some (.string x):=by rw[hx];exact t0
  clear t0 d7;have t0:=d8;clear d8;have HX:=Kz hx;clear hx;go_wp2_with fail
  refine (JC wr a cap Kq B C rc (some ⟨Y,Z,none⟩) dc b x d3 f6 b3 a6.o (hN.kept (P.o.trans W)) (hS.kept (P.o.trans W))).mono ?_;rintro e E ⟨fb,a0,rfl,hF,hV,k2⟩;have⟨HF,HV⟩:=aD hF hV;have F:=W.trans k2;clear hF hV c0 c1 c2 t0;dsimp only;have b5:Hid ((a0 i≠0->dS (bC (Kk Kq) (Qq b)) x (a0 i) x)/\∀r,dS (bC (Kk Kq) (Qq b)) x r x->a0 i=r):=by
   have h:=HV.o i X;rw[<-HX.o] at h;exact dR.whole (names:=b.map (·.name)) lh (by rw[Qc];exact h) (aI x)
  have d9:=World.rowIs.cell HF.o X;try dsimp only at d9
  have fz:=HF.o.lt;have g4:=Kz (HB.o.kept k2);have e0:Hid ((b.take (i+1)).map (·.name)= (b.take i).map (·.name)++ [x]):=by
   show _=_;rw[Pb X,Qm,HX.o];simp[runN,List.getD,X]
  have g5:Hid (∀y∈(b.take i).map (·.name),aH y x):=DW a6.o.asc X HX.o;obtain⟨v,hv⟩:=ag (a0 i);rw[<-hv] at d9 b5;have k7:=Kz hv;clear hv HB k2;by_cases Q:v=0\/(0<k.length/\k.length<=v)
  ·have a1:Hid (∀n,dS (bC (Kk Kq) (Qq b)) x n x->k≠[]/\k.length<=n):=fun n hn=>by
    have e:=b5.o.2 n hn;have hp:=hn.1.pos;rcases Q with h|⟨t,l⟩
    ·omega
    ·exact⟨fun g6=>by rw[g6] at t;simp at t,by omega⟩
   have g7:((v:Int) == 0)=true\/(((v:Int) == 0)=false/\(0:Int)<(k.length:Int)/\(k.length:Int)<=(v:Int)):=by
    by_cases h0:v=0
    ·exact .inl (by simp[h0])
    ·refine .inr ⟨by simp;omega, ?_⟩;rcases Q with h|⟨t,l⟩
     ·exact Qi h h0
     ·omega
   clear Q;rcases g7 with h0|⟨h0,t,l⟩
   all_goals
    go_wp2
    go_roundw
    case rel=>exact⟨i+1,av,cv,k,by omega,by go_num,rfl,d5,g4,Kz (by rw[e0.o];exact jS.skip HR.o a1.o g5.o),F⟩
    case measure=>simp[intOf];omega
  have g8:v≠0:=fun h=>Q (.inl h)
  have b6:=Kz (b5.o.1 g8);have g9:Hid (k=[]\/v<k.length):=by
   by_cases h:k.length=0
   ·exact .inl (Qo h)
   ·refine .inr ?_;have l:¬(0<k.length/\k.length<=v):=fun l=>Q (.inr l)
    omega
  have h1:((v:Int) == 0)=false/\(¬((0:Int)<(k.length:Int))\/((0:Int)<(k.length:Int)/\¬((k.length:Int)<=(v:Int)))):=by
   refine⟨by simp;omega, ?_⟩;have l:¬(0<k.length/\k.length<=v):=fun l=>Q (.inr l)
   omega
  have k8:v<=b.length:=by have:=(b6.o).bound (names:=b.map (·.name)) lh;rwa [Qc] at this
  clear Q;obtain⟨W3,a7⟩:=ag (E.alloc (.cells #[.string x] 9));have K3:K_ E W3:=by rw[a7];exact ak _ _
  have h2:Hid (W3.ownsRow E.heap.size 9 1 (.slice (some ⟨E.heap.size,0,none⟩) 1 1) [x].length ([x].map Value.string)):=by
   rw[a7];exact⟨rfl,.inr ⟨E.heap.size,1,_,rfl,OU _,heap_alloc_new E _,OU _,by unfold maxLen;omega,rfl,rfl⟩⟩
  obtain⟨h0,h4⟩:=h1;rcases h4 with t|⟨t,l⟩
  all_goals
   go_upto_region 10 with fail
   rw[<-a7];clear a7;go_loopg [10] v (fun gg b7 wr=>∃(f:List Qw) (G:Qw) (lv:Qx) (I:Nat),b7= .slice lv f.length I/\Hid (oJ (bC (Kk Kq) (Qq b)) x v f G gg)/\Hid (wr.ownsRow E.heap.size 9 1 (.slice lv f.length I) f.length (f.map Value.string))/\K_ E wr)
   case atStart=>exact⟨[x],x,_,_,rfl,Kz (oJ.start b6.o),h2,K3⟩
   case round=>
    obtain⟨f,G,lv,I,rfl,a2,HO,L⟩:=hrel;have e2:=a2.o.len;have e3:=a2.o.pos;by_cases b8:gk=1
    ·have k9:¬((f.length:Int)<(v:Int)):=by omega
     have h5:Hid (mg (bC (Kk Kq) (Qq b)) x v x f):=by have h:=a2.o;rw[b8] at h;exact h.done
     clear b8 e2 e3;obtain⟨a9,h6,R,S⟩:=bM HO.o;simp only[PO,true_and] at R;rw[<-R.1] at S;have H9:=Kz S;have h7:Hid (f.length<=I):=by
      rcases HO.o.2 with⟨e,h⟩|⟨_,_,_,e,_,_,h,_⟩
      ·simp only[PO] at e;show f.length<=I;omega
      ·simp only[PO] at e;show f.length<=I;omega
     clear R S;go_wp2
     go_roundw
     case rel=>exact⟨i+1,lv,I,f,by omega,by go_num,rfl,h7.o,H9,Kz (by rw[e0.o];exact jS.take HR.o b6.o h5.o g9.o),F.trans L⟩
     case measure=>simp[intOf];omega
    obtain⟨q,hq⟩:∃q,gk=q+1:=⟨gk-1,by omega⟩;have e4:1<=q:=by omega
    have b9:Hid (oJ (bC (Kk Kq) (Qq b)) x v f G (q+1)):=by have h:=a2.o;rw[hq] at h;exact h
    have HQ:=Kz hq;have l1:(f.length:Int)<(v:Int):=by omega
    obtain⟨r,hm⟩:∃r,f.length=r+1:=⟨f.length-1,by have h:=a2.o.last;obtain⟨l0,e⟩:=h;rw[e];simp⟩;have h8:(f.length:Int)-1= (r:Int):=by omega
    have h9:IntKind.i64.wrap (r:Int)= (r:Int):=by rw[IntKind.wrap_i64];omega
    have i0:(r:Int)<(f.length:Int):=by omega
    have c3:f.getD r ByteArray.empty=G:=by
     obtain⟨l0,e⟩:=a2.o.last;have c4:r=l0.length:=by rw[e,PM] at hm;simp at hm;omega
     rw[e,c4];simp[List.getD]
    obtain⟨a9,h6,R,S⟩:=bM HO.o;simp only[PO,true_and] at R;rw[<-R.1] at S;obtain⟨lb,lo,e1,e5,c5⟩:=S r (by omega);rw[c3] at c5;subst e1;have⟨l2,HM⟩:=aD c3 hm;clear R S hq c3 hm b8 e2 e3;have c6:Hid (∀u,K_ wr u->(u.cell? ⟨w.heap.size,0,none⟩=some (.slice a Kq.length cap)/\u.cell? ⟨w.heap.size+1,0,none⟩=some (.slice B C rc)/\u.cell? ⟨w.heap.size+1,1,none⟩=some (.slice (some ⟨Y,Z,none⟩) b.length dc)/\u.cell? ⟨lb,lo+r,none⟩=some (.string G))):=fun u K=>⟨(V.o u (F.trans (L.trans K))).1,(V.o u (F.trans (L.trans K))).2.1,(V.o u (F.trans (L.trans K))).2.2.1,(K.cell e5).trans c5⟩
    go_upto_region 11 with fail
    refine aR 9 c6.o fun wd M c=>?_
    refine af 0 c ?_;refine af 4 c ?_;refine ax 8 (fun K m=>?_);go_simp
    go_at_call 103
    refine (ve wd a cap Kq B C rc (some ⟨Y,Z,none⟩) dc b G d3 d4 b3 a6.o (hN.kept (P.o.trans (F.trans (L.trans M)))) (hS.kept (P.o.trans (F.trans (L.trans M))))).mono ?_;rintro e w4 ⟨⟨nb,no,nc,N,rfl,l3,e6,c7⟩,k4⟩;have K4:=M.trans k4;dsimp only;refine m.out _ _ (fun _=>c6.o _ K4) ?_;clear m K c;try simp only[Act.put,upA,upB,upC]
    refine ay 9 (fun K m=>?_);go_simp
    refine m.out _ _ (fun h=>Qi rfl h) ?_;clear m K;try simp only[Act.put,upA,upB,upC]
    refine az ?_;have⟨a8,i1⟩:=aD c7 e6;have i2:=Kz (ai HO.o K4);have i3:=Kz (HF.o.kept (L.trans K4));have b1:=L.trans K4;have l4:=c7.len b3 a6.o.env;clear c7 e6 c6 h8 h9 i0 c5 k4 e5;go_wp2
    go_loopw [10,12] (fun b7 c8 wr=>∃z:Nat,z<=N.length/\c8= .int .i64 (z:Int)/\b7= .slice (some ⟨lb,lo,none⟩) f.length I/\Hid (∀y∈N.take z,¬(bC (Kk Kq) (Qq b) G y/\aH x y/\dS (bC (Kk Kq) (Qq b)) x q y))/\K_ w4 wr) (fun _ c8 _=>N.length-(intOf c8).toNat)
    case atStart=>exact⟨0,OW _,rfl,rfl,Kz (fun y g=>by simp at g),K_.refl _⟩
    case round=>
     obtain⟨z,hk,rfl,rfl,b2,J⟩:=hrel;by_cases a3:z<N.length;rotate_left
     ·exfalso
      obtain⟨y,t,l,h3⟩:=b9.o.more e4;have g:y∈N:=(a8.o.2 y).2 t;refine b2.o y ?_ ⟨t,l,h3⟩;rw[PG (by omega)];exact g
     obtain⟨l5,l6,e1,i4,c9⟩:=(i1.o.kept J) z a3;cases e1;obtain⟨s,hs⟩:=ag (N.getD z ByteArray.empty);rw[<-hs] at c9;have d0:N[z]=s:=by rw[hs];simp[List.getD,a3]
     have a1:=Kz d0;have e7:Hid (bC (Kk Kq) (Qq b) G s):=(a8.o.2 s).1 (by rw[<-d0];exact Pf a3);clear hs d0;have l7:(z:Int)<(N.length:Int):=by omega
     have a4:Hid (∀u,K_ wr u->(u.cell? ⟨nb,no+z,none⟩=some (.string s)/\u.cell? ⟨w.heap.size+1,0,none⟩=some (.slice B C rc)/\u.cell? ⟨w.heap.size+1,1,none⟩=some (.slice (some ⟨Y,Z,none⟩) b.length dc)/\Hid (fT u fb b.length a0))):=fun u K=>⟨(K.cell i4).trans c9,(V.o u (F.trans (b1.trans (J.trans K)))).2.1,(V.o u (F.trans (b1.trans (J.trans K)))).2.2.1,Kz (i3.o.kept (J.trans K))⟩
     go_upto_region 15 with fail
     clear c9;by_cases T:aH x s;rotate_left
     ·have i5:=Kz T;have i6:Op.bytesLess s.toList x.toList=true\/(Op.bytesLess s.toList x.toList=false/\(s.toList == x.toList)=true):=by
       rcases b_ s x with h|h|h
       ·exact .inl h
       ·right
        rw[h];exact⟨by cases l:Op.bytesLess x.toList x.toList;rfl;exact Qi (show aH x x from l) (aI x),by simp⟩
       ·exact Qi h T
      clear T;rcases i6 with e8|⟨e8,i7⟩
      all_goals
       refine aR 21 a4.o fun wd M c=>?_
       refine af 0 c ?_;refine ae 4 c ?_;refine ae 5 c ?_;refine ae 6 c ?_;refine au 7 c ?_;refine au 8 c ?_;refine au 9 c ?_;refine au 10 c ?_;refine au 11 c ?_;refine au 12 c ?_;refine au 13 c ?_;refine au 14 c ?_;refine au 15 c ?_;refine au 16 c ?_;refine au 17 c ?_;refine au 18 c ?_;refine au 19 c ?_;refine au 20 c ?_;refine ay 21 (fun K m=>?_);go_simp
       refine m.out _ _ (fun h=>Qi rfl h) ?_;clear m K;try simp only[Act.put,upA,upB,upC]
       refine az ?_;go_wp2
       go_roundw
       case rel=>exact⟨z+1,by omega,by go_num,rfl,Kz (fun y g=>by
        rw[Pb a3,a1.o] at g;rcases Pe.1 g with g|g
        ·exact b2.o y g
        ·rw[Pd] at g;rw[g];exact fun h=>i5.o h.2.1),J.trans M⟩
       case measure=>simp[intOf];omega
     have e9:Hid (aH x s):=T;have e8:Op.bytesLess s.toList x.toList=false:=by
      cases h:Op.bytesLess s.toList x.toList
      ·rfl
      ·exact Qi (show aH s x from h) (di T)
     have i7:(s.toList == x.toList)=false:=by
      cases h:(s.toList == x.toList)
      ·rfl
      ·exact Qi T (by rw[iX h];exact aI _)
     clear T;have l8:(v:Int)-(f.length:Int)= (q:Int):=by have:=b9.o.len;omega
     have l9:IntKind.i64.wrap (q:Int)= (q:Int):=by rw[IntKind.wrap_i64];omega
     refine aR 21 a4.o fun wd M c=>?_
     refine af 0 c ?_;refine af 4 c ?_;refine af 8 c ?_;refine ae 12 c ?_;refine af 16 c ?_;refine ax 13 (fun K m=>?_);go_simp
     go_at_call 52
     refine (jC wd B C rc (some ⟨Y,Z,none⟩) dc b s d4 (hS.kept (P.o.trans (F.trans (b1.trans (J.trans M)))))).mono ?_;rintro e U ⟨⟨q5,rfl,f0⟩,k5⟩;have K5:=M.trans k5;obtain⟨A,d1,rfl,i8,f1⟩:∃A:Nat,A<b.length/\q5= (A:Int)/\Qq b s=some (b.getD A Q_.zero)/\(b.getD A Q_.zero).name=s:=by
      rcases f0 with⟨A,t,l,h3,i9⟩|⟨_,t⟩
      ·exact⟨A,t,l,h3,i9⟩
      ·obtain⟨_,_,_,_,_,_,_,y,g,_⟩:=e7.o;rw[t] at g;cases g
     clear f0;have m0:(A:Int)<(b.length:Int):=by omega
     have m1:(0:Int)<=(A:Int):=by omega
     obtain⟨p,hp⟩:=ag (a0 A);have f2:Hid (p=q↔dS (bC (Kk Kq) (Qq b)) x q s):=by
      show p=q↔_;have h:=HV.o A d1;have c4:runN b A=s:=f1;rw[c4] at h;have l:=dR.whole (names:=b.map (·.name)) lh (by rw[Qc];exact h) (di e9.o);rw[<-hp] at l;exact⟨fun e=>by have h3:=l.1 (by omega);rw[e] at h3;exact h3,fun hf=>l.2 q hf⟩
     have f3:=Kz hp;clear hp i8 f1;dsimp only;refine m.out _ _ (fun _=>a4.o _ K5) ?_;clear m K;try simp only[Act.put,upA,upB,upC]
     clear c;have c:=a4.o _ K5;by_cases a5:p=q
     ·have j0:((p:Int) == (q:Int))=true:=by simp[a5]
      have j1:Hid (iM (fun y=>bC (Kk Kq) (Qq b) G y/\aH x y/\dS (bC (Kk Kq) (Qq b)) x q y) s):=by
       have h:=Du (p:=fun y=>bC (Kk Kq) (Qq b) G y/\aH x y/\dS (bC (Kk Kq) (Qq b)) x q y) a8.o.1 (fun y g=>(a8.o.2 y).2 g.1) a3 (by rw[a1.o];exact⟨e7.o,e9.o,f2.o.1 a5⟩) b2.o;rw[a1.o] at h;exact h
      clear a5;refine ae 14 c ?_;refine Qk.take 15 [20,21] (v:=?_) (by (simp only[Qu,List.getElem?_cons_succ,P_];rfl)) (by kernel_rfl) (by kernel_rfl) (by kernel_rfl) (by kernel_rfl) (by exact fun _ _ _ h=>h) (Or.inl ⟨by rfl, ?_⟩) c ?_;rotate_left
      ·intro u H;try dsimp only at H
       have f9:=World.rowIs.cell H.2.2.2.out d1;try dsimp only at f9
       rw[<-f3.o] at f9;go_simp
       try with_reducible rfl
      try simp only[Act.put,upA,upB,upC]
      refine ae 20 c ?_;refine ay 21 (fun K m=>?_);go_simp
      refine m.out _ _ (fun h=>Qi rfl h) ?_;clear m K;try simp only[Act.put,upA,upB,upC]
      refine az ?_;have m2:=(a4.o _ K5).1;clear a4 c;have k1:K_ U (U.alloc (.cells #[.string s] 9)):=ak _ _;have f4:=Kz (ai i2.o (J.trans (K5.trans k1)));have KK:=Kz (b1.trans (J.trans (K5.trans k1)));have j2:E.heap.size<=(U.alloc (.cells #[.string s] 9)).heap.size:=KK.out.size;have j3:Hid (∀j u,([.string s]:List QA)[j]? =some u->(U.alloc (.cells #[.string s] 9)).cell? ((⟨U.heap.size,0,none⟩:Addr).add j)=some u):=fun j u H=>by rw[PQ];exact X_ U #[.string s] 9 j u H
      have j4:Hid (∀u∈([.string s]:List QA),u.oneCell'=true):=fun u H=>by simp only[PS,PT,or_false] at H;subst H;rfl
      clear k1;go_wp2_with (at_builtin;refine wpList_append_own _ rfl (.tmp 91) (.tmp 96) 25 rfl E.heap.size 9 ic _ 1 16 underlying25 f8 g0 g1 g2 rfl (by decide) (.slice (some ⟨lb,lo,none⟩) f.length I) f.length (f.map Value.string) rfl f4.o ⟨U.heap.size,0,none⟩ 1 1 [.string s] rfl rfl j3.o j4.o (by unfold maxLen;omega) (by omega) j2 ?_;intro v' w6 d2 f5 _;have KP:=aC KK.out (OU _) f4.o f5;have j5:=Kz d2;obtain⟨j6,j7,rfl⟩:=aG d2;clear d2 f5)
      go_roundg q
      case measure=>have:=HQ.o;omega
      case rel=>exact⟨f++ [s],s,j6,j7,by rw[PM];rfl,Kz (b9.o.next e4 j1.o),Kz (by rw[Qm,PM];exact j5.o),KP⟩
     ·have j0:((p:Int) == (q:Int))=false:=by simp;omega
      have j8:Hid (¬dS (bC (Kk Kq) (Qq b)) x q s):=fun h=>a5 (f2.o.2 h)
      clear a5;refine ae 14 c ?_;refine Qk.take 15 [20,21] (v:=?_) (by (simp only[Qu,List.getElem?_cons_succ,P_];rfl)) (by kernel_rfl) (by kernel_rfl) (by kernel_rfl) (by kernel_rfl) (by exact fun _ _ _ h=>h) (Or.inl ⟨by rfl, ?_⟩) c ?_;rotate_left
      ·intro u H;try dsimp only at H
       have f9:=World.rowIs.cell H.2.2.2.out d1;try dsimp only at f9
       rw[<-f3.o] at f9;go_simp
       try with_reducible rfl
      try simp only[Act.put,upA,upB,upC]
      refine ae 20 c ?_;refine ay 21 (fun K m=>?_);go_simp
      refine m.out _ _ (fun h=>Qi rfl h) ?_;clear m K;try simp only[Act.put,upA,upB,upC]
      refine az ?_;go_wp2
      go_roundw
      case rel=>exact⟨z+1,by omega,by go_num,rfl,Kz (fun y g=>by
       rw[Pb a3,a1.o] at g;rcases Pe.1 g with g|g
       ·exact b2.o y g
       ·rw[Pd] at g;rw[g];exact fun h=>j8.o h.2.2),J.trans K5⟩
      case measure=>simp[intOf];omega
